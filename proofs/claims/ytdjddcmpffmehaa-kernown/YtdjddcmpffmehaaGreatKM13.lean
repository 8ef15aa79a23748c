/- What the proof stands on, part 13: the contracts of the program's calls that it reaches. -/
import Derived.Test.YtdjddcmpffmehaaGreatKM12
/- Files: all files by name. -/
namespace Go.Proofs.YtdjddcmpffmehaaGreat
open Go.RowKit Go.Maps

/-- A file's bytes. -/
def Ob.bytes : Ob → List UInt8
  | .file b => b
  | _ => []
/-- All files, by name. -/
def KS.files (K : KS) : List Nm := K.fidx.map fun i => (K.nameOf i, (K.obOf i).bytes)
def fnames (K : KS) : List (List UInt8) := K.fidx.map fun i => (K.nameOf i).data.toList
theorem fnames_sorted {K : KS} (h : KNm K) : (fnames K).Pairwise (fun a b => leB a b = true) := by
  unfold fnames KS.fidx
  refine List.pairwise_map.2 ?_
  refine ((h.sorted.filter _).imp fun {a b} hab => ?_)
  exact decide_eq_true (List.le_of_lt hab)
theorem keys_are {K : KS} (h : KNm K) {ss : List (List UInt8)} (hp : ss.Perm (fnames K)) : ss.mergeSort (fun x y => decide (x ≤ y)) = fnames K := by
  show ss.mergeSort leB = _
  rw [mergeSort_of_perm hp]
  exact List.mergeSort_of_pairwise (fnames_sorted h)
theorem fl_strs (K : KS) (I : PI) : ((K.fl I).map fun p => strOf p.1) = fnames K := by
  unfold KS.fl fnames
  rw [List.map_map]
  rfl
theorem sorted_any {w : World} {ρ : Nat → Option PTag} {I : PI} {K : KS} (h : PK w ρ I K) :
    Calls Tryz.prog 38 #[.func (.func 63) #[] #[.pointer (some ⟨w.heap.size, 0, none⟩)]] (w.alloc (.cells #[.map (some I.fm)] 30)) fun e w' => ∃ v, e = .returned v ∧ w'.ownsRow (w.alloc (.cells #[.map (some I.fm)] 30)).heap.size 9 1 v (fnames K).length ((fnames K).map encStr) ∧ Below (w.alloc (.cells #[.map (some I.fm)] 30)).heap.size (w.alloc (.cells #[.map (some I.fm)] 30)) w' := by
  obtain ⟨D, h1, h2, h3⟩ := (h.comp .fmap).1.keys skeyed Tryz.underlying9
  have hfew : (K.fl I).length ≤ 256 := by
    have := h.ok.named
    have h4 : (K.fl I).length ≤ K.nm.length := by unfold KS.fl KS.fidx; simpa using List.length_filter_le _ _
    omega
  rw [fl_strs] at h3
  refine (callsIn_wide.1 (Tryz.slices_Sorted_keys_38_39 I.fm _ D ptrElem w h1 (by unfold maxLen; omega) (by omega))).mono ?_
  rintro e w' ⟨v, ss, rfl, hS, hrow, -, hb⟩
  have hp := hS.trans h3
  rw [keys_are h.nm hp, hp.length_eq] at hrow
  exact ⟨v, rfl, hrow, hb⟩
theorem kbytes_any (O : Nat → Prop) (p : Nat) (b : List UInt8) (w : World) (h : PObj w O p (.file b)) :
    Calls Tryz.prog 40 #[.pointer (some ⟨p, 0, none⟩)] w fun e w' => ∃ v, e = .returned v ∧ w'.ownsRow w.heap.size 5 1 v b.length (b.map bv) ∧ Below w.heap.size w w' :=
  (po_fbytes O p b w h).mono fun _ _ ⟨a, b, c⟩ => ⟨_, a, b, c⟩
theorem name_few {s : ByteArray} (h : nameOk s = true) : s.size ≤ 64 := by
  unfold nameOk at h
  simp only [Bool.and_eq_true, decide_eq_true_eq] at h
  exact h.2.1
theorem file_at {K : KS} (h : KOk K) {k : Nat} (hk : k < (fnames K).length) : ∃ i L, i ∈ K.nm ∧ i < K.th.length ∧ K.obOf i = .file L ∧ (fnames K)[k]? = some (K.nameOf i).data.toList ∧ K.files[k]? = some (K.nameOf i, L) := by
  have hk' : k < K.fidx.length := by simpa [fnames] using hk
  have hm := List.mem_filter.1 (List.getElem_mem hk')
  have hkind : (K.obOf K.fidx[k]).kind = 1 := by simpa using hm.2
  cases ho : K.obOf K.fidx[k] with
  | file L =>
    refine ⟨K.fidx[k], L, hm.1, h.nm _ hm.1, ho, ?_, ?_⟩
    · simp [fnames, hk']
    · simp [KS.files, hk', ho, Ob.bytes]
  | term ls scr => rw [ho] at hkind; cases hkind
  | pipe q rd wt => rw [ho] at hkind; cases hkind
theorem names_cell {W : World} {va : Option Addr} {vc N k : Nat} {ns : List (List UInt8)} {s : ByteArray} (h : W.ownsRow 0 9 1 (.slice va N vc) N (ns.map encStr)) (hk : k < N) (hs : ns[k]? = some s.data.toList) : ∃ vb, va = some ⟨vb, 0, none⟩ ∧ W.cell? ⟨vb, k, none⟩ = some (.string s) := by
  have hx := h
  rcases h.2 with ⟨e, _⟩ | ⟨g, cap, cur, e, _⟩
  · simp only [Value.slice.injEq] at e; omega
  · simp only [Value.slice.injEq] at e
    obtain ⟨rfl, _, rfl⟩ := e
    refine ⟨g, rfl, ?_⟩
    rw [hx.cellAt k (by omega), List.getElem?_map, hs]
    simp [encStr]
theorem kkeys_any (mb : Option Nat) (W : World) : Calls Tryz.prog 39 #[.map mb] W fun e w' => e = .returned (.func (.func 63) #[] #[.pointer (some ⟨W.heap.size, 0, none⟩)]) ∧ w' = W.alloc (.cells #[.map mb] 30) := callsIn_wide.1 (Tryz.maps_Keys_39 mb W)
set_option maxRecDepth 100000 in
set_option maxHeartbeats 4000000 in
theorem kfiles_any (ρ : Nat → Option PTag) (I : PI) (K : KS) (w : World) (h : PK w ρ I K) :
    Calls Tryz.prog 10 #[.pointer (some ⟨I.kb, 0, none⟩)] w fun e w' => ∃ v us, e = .returned v ∧ w'.ownsRow w.heap.size 47 2 v K.files.length (ncs K.files us) ∧ LCells w' w.heap.size (K.files.map Prod.snd) us ∧ Below w.heap.size w w' := by
  have H := hide h
  have c0 := h.cells.made
  have c1 := h.cells.files
  have sl := (h.comp .fmap).1.len Tryz.underlying30
  have hflen : (K.fl I).length = (fnames K).length := by simp [KS.fl, fnames]
  obtain ⟨N, hN⟩ : ∃ N, N = (fnames K).length := ⟨_, rfl⟩
  rw [hflen, ← hN] at sl
  have HN := hide hN
  have HN9 : Hid (N ≤ 256) := hide (by
    have := h.ok.named
    have h4 : (K.fl I).length ≤ K.nm.length := by unfold KS.fl KS.fidx; simpa using List.length_filter_le _ _
    omega)
  obtain ⟨i0, hi, hz0, hz1, hz2⟩ := info_parts Tryz.infoN
  clear h hflen hN
  go_enter Tryz.func10, Tryz.ntmps10
  go_wp2_with fail
  refine (kmade_any I.kb w c0).mono ?_
  rintro e w1 ⟨rfl, rfl⟩
  go_wp2_with (at_make; refine wpList_make_own _ rfl _ _ 22 rfl w1.heap.size 47 i0 (.agg #[.string ByteArray.empty, .slice none 0 0]) 2 Tryz.underlying22 hi hz0 hz1 _ _ _ N rfl rfl rfl (by rw [hz2]; have := HN9.out; omega) (by have := HN9.out; unfold maxLen; omega) (Nat.le_refl _) ?_; intro w2 hown2 hgrow2; have HO2 := hide hown2; have HB2 : Hid (Below w1.heap.size w1 w2) := hide ((Below.refl _ w1).grown hgrow2 (Nat.le_refl _) (fun k e => by cases e)); have H2 := hide (H.out.under HB2.out); have c2 := H2.out.cells.files; clear hown2 hgrow2 c0 c1 sl)
  refine (kkeys_any _ _).mono ?_
  rintro _ _ ⟨rfl, rfl⟩
  go_wp2_with fail
  refine (sorted_any H2.out).mono ?_
  rintro e w3 ⟨v, rfl, hrow, hB3⟩
  obtain ⟨va, vc, rfl⟩ := owns_slice hrow
  have HRow := hide (owns_mono hrow (Nat.zero_le _))
  rw [← HN.out] at HRow ⊢
  have HB3 : Hid (Below w1.heap.size w1 w3) := hide (HB2.out.trans (((recv_below w2 _).trans (hB3.mono (recv_below w2 _).size)).mono HB2.out.size))
  have HO3 := hide (owns_below HO2.out ((recv_below w2 _).trans (hB3.mono (recv_below w2 _).size)))
  clear hrow hB3 c2
  go_wp2_with fail
  go_loopw [3, 22] (fun ov i wr => ∃ (k : Nat) (us : List Value), k ≤ N ∧ i = .int .i64 k ∧ Hid (wr.ownsRow w1.heap.size 47 2 ov k (ncs (K.files.take k) us)) ∧ Hid (LCells wr w1.heap.size ((K.files.take k).map Prod.snd) us) ∧ Hid (wr.ownsRow 0 9 1 (.slice va N vc) N ((fnames K).map encStr)) ∧ Hid (Below w1.heap.size w1 wr)) (fun _ i _ => N - (intOf i).toNat)
  case atStart => exact ⟨0, [], Nat.zero_le _, rfl, HO3, hide ⟨rfl, (fun j hj => by simp at hj), (fun i j vi vj m _ h1 => by simp at h1)⟩, HRow, HB3⟩
  case round =>
    obtain ⟨k, us, hk, rfl, HO, HL, HRw, HB⟩ := hrel
    obtain ⟨oa, oc, rfl⟩ := owns_slice HO.out
    clear HO3 HRow HB3 HO2 HB2 H2
    by_cases hlt : k < N
    · obtain ⟨i, L, hmem, hith, hobi, hfn, hfile⟩ := file_at H.out.ok (k := k) (by rw [← HN.out]; exact hlt)
      have hH := H.out.under HB.out
      have hHd := hH
      have hsz : (K.nameOf i).size ≤ maxLen := by have := name_few (H.out.nm.ok i hmem); unfold maxLen; omega
      have hlk := look_file hHd hsz hmem rfl (by rw [hobi]; rfl) false
      simp only [Bool.false_eq_true, if_false] at hlk
      have HOb : Hid (PObj wr (fun k => ρ k = some (.obj i)) (I.ob i) (.file L)) := hide (by have := hHd.comp (.obj i) hith; rw [← KS.obOf_eq hith, hobi] at this; exact this)
      have hc1 := hH.cells.files
      have hkb : I.kb < wr.heap.size := World.block_lt_of_cell? wr _ hc1
      have hkw : I.kb < w1.heap.size := World.block_lt_of_cell? w1 _ H.out.cells.files
      obtain ⟨vb, rfl, hcell⟩ := names_cell HRw.out hlt hfn
      have hk1 : (0 : Int) ≤ (k : Int) := by omega
      have hk2 : (k : Int) < (N : Int) := by omega
      have hNs := HN9.out
      have hBs := HB.out.size
      have hul := HL.out.1
      simp only [List.length_map, List.length_take] at hul
      have hkf : k < K.files.length := (List.getElem?_eq_some_iff.1 hfile).1
      rw [Nat.min_eq_left (by omega)] at hul
      have hl4 : L.length ≤ 1048576 := HOb.out.1
      have HPk := hide hfile
      generalize K.nameOf i = nm at *
      clear hfn hobi hH hHd hfile hsz
      go_wp2_with fail
      refine (kbytes_any _ (I.ob i) L _ HOb.out).mono ?_
      rintro e w4 ⟨u, rfl, hownu, hB4⟩
      obtain ⟨ua, uc, rfl⟩ := owns_slice hownu
      have hz4 : wr.heap.size ≤ w4.heap.size := hB4.size
      have hB04 : Below w1.heap.size w1 w4 := HB.out.trans (hB4.mono HB.out.size)
      have K4 : w4.cell? ⟨I.kb, 1, none⟩ = some (.map (some I.fm)) := (hB4.cell (p := ⟨I.kb, 1, none⟩) hkb).trans hc1
      have hBa : Below w4.heap.size w4 (w4.alloc (Obj.cells #[.string nm, .slice ua L.length uc] 47)) := (Below.refl _ _).alloc (Nat.le_refl _) _
      have Ka : (w4.alloc (Obj.cells #[.string nm, .slice ua L.length uc] 47)).cell? ⟨I.kb, 1, none⟩ = some (.map (some I.fm)) := (hBa.cell (p := ⟨I.kb, 1, none⟩) (Nat.lt_of_lt_of_le hkb hz4)).trans K4
      have hB0a := hB04.trans (hBa.mono hB04.size)
      have hB4a := hB4.trans (hBa.mono hB4.size)
      have HOa := hide (owns_below (W := wr) HO.out hB4a)
      have HLa := hide (LCells.below (W := wr) HL.out hB4a)
      have HUa := hide (owns_below hownu hBa)
      have hcu0 : (w4.alloc (Obj.cells #[.string nm, .slice ua L.length uc] 47)).cell? ⟨w4.heap.size, 0, none⟩ = some (.string nm) := (by simp only [World.cell?, heap_alloc_new]; rfl)
      have hcu1 : (w4.alloc (Obj.cells #[.string nm, .slice ua L.length uc] 47)).cell? ⟨w4.heap.size, 1, none⟩ = some (.slice ua L.length uc) := (by simp only [World.cell?, heap_alloc_new]; rfl)
      have hza := size_new w4 (Obj.cells #[.string nm, .slice ua L.length uc] 47)
      obtain ⟨s', w7, hrun, HO7, hg7, hb7⟩ := run_append_named (w4.alloc (Obj.cells #[.string nm, .slice ua L.length uc] 47)) 22 w1.heap.size _ k _ w4.heap.size 1 nm _ HOa.out hcu0 hcu1 rfl (by omega) (by omega)
      have HR := hide hrun
      have HX := hide hownu
      have K7 : w7.cell? ⟨I.kb, 1, none⟩ = some (.map (some I.fm)) := (World.cell?_of_block (w := w4.alloc (Obj.cells #[.string nm, .slice ua L.length uc] 47)) (a := ⟨I.kb, 1, none⟩) (hg7.block I.kb (by show I.kb < _; omega) (fun e => by have := (HOa.out.lt I.kb e.symm).1; omega))).trans Ka
      clear hrun hownu hcu0 hcu1
      go_wp2_with (first | (at_builtin; refine Lib.wpList_append_run _ rfl _ _ _ _ rfl _ _ rfl rfl _ _ HR.out ?_) | fail)
      all_goals
        go_roundw
        case rel =>
          have hLa : LCells w7 w1.heap.size ((K.files.take k).map Prod.snd) us := HLa.out.keep fun j hj v i h1 e => by
            obtain ⟨v', h2, h3⟩ := HLa.out.2.1 j hj
            rw [h1] at h2
            cases h2
            exact hg7.block i (h3.lt i e).2 (fun e' => Te_owns_apart h3 HOa.out (by decide) i e e'.symm)
          have hU7 := owns_keep (W' := w7) HUa.out fun i e => hg7.block i (HUa.out.lt i e).2 (fun e' => Te_owns_apart HUa.out HOa.out (by decide) i e e'.symm)
          refine ⟨k + 1, us ++ [.slice ua L.length uc], by omega, by go_num, ?_, ?_, hide ?_, hide (hB0a.grown hg7 hB0a.size (fun j e => (HOa.out.lt j e).1))⟩
          · have h8 := HO7.out
            rw [← ncs_snoc (K.files.take k) us (nm, L) _ (by simp; omega)] at h8
            rw [show K.files.take (k + 1) = K.files.take k ++ [(nm, L)] by rw [List.take_add_one, HPk.out]; rfl]
            exact h8
          · have h9 : k < (K.files.map Prod.snd).length := by rw [List.length_map]; exact (List.getElem?_eq_some_iff.1 HPk.out).1
            rw [List.map_take] at hLa ⊢
            refine LCells.snoc h9 hLa _ ?_ (fun j v i h1 e e' => ?_)
            · rw [List.getElem_map, (List.getElem?_eq_some_iff.1 HPk.out).2]
              exact owns_mono hU7 (by omega)
            · obtain ⟨v', h2, h3⟩ := HL.out.2.1 j (by have := (List.getElem?_eq_some_iff.1 h1).1; have := HL.out.1; omega)
              rw [h1] at h2
              cases h2
              have := (h3.lt i e).2
              have : wr.heap.size ≤ i := (HX.out.lt i e').1
              omega
          · exact owns_keep (owns_below HRw.out hB4a) fun i e => hg7.block i (Nat.lt_of_lt_of_le (HRw.out.lt i e).2 hB4a.size) (fun e' => Te_owns_apart (owns_below HRw.out hB4a) HOa.out (by decide) i e e'.symm)
        case measure => simp [intOf]; omega
    · have hke : k = K.files.length := by have := HN.out; simp only [fnames, KS.files, List.length_map] at *; omega
      go_wp2
      go_ret
      have h1 := HL.out
      have h2 := HO.out
      subst hke
      rw [List.take_length] at h1 h2
      exact ⟨_, us, rfl, h2, h1, HB.out⟩
end Go.Proofs.YtdjddcmpffmehaaGreat

/- KernPlace: the kernel's states, as values. -/
namespace Go.Proofs.YtdjddcmpffmehaaGreat
open Go.RowKit Go.Maps

def nmF : ByteArray := ⟨#[102]⟩
/-- One file, two descriptions of it: one read by two, one written. -/
def KPl (b : List UInt8) (p1 p2 rd wr : Nat) : KS := ⟨[⟨nmF, .file b⟩], [0], [⟨1, 0, 1, p1, 2⟩, ⟨2, 0, 3, p2, 1⟩], 3, [], rd, wr⟩
theorem pl_check (b : List UInt8) : checkE [(nmF, b)] [] [] = if 1048576 < b.length then 5 else 0 := by
  unfold checkE
  rw [if_neg (by simp)]
  rw [show kfiles [] [(nmF, b)] = if 1048576 < b.length then (5, []) else (0, [nmF]) from rfl]
  split
  · rw [if_neg (by decide)]
  · rw [if_pos rfl]; rfl
theorem pl_open1 (b : List UInt8) : (KS.new [(nmF, b)] [] []).open nmF 1 = (1, 0, ⟨[⟨nmF, .file b⟩], [0], [⟨1, 0, 1, 0, 1⟩], 2, [], 0, 0⟩) := rfl
theorem pl_open2 (b : List UInt8) : (⟨[⟨nmF, .file b⟩], [0], [⟨1, 0, 1, 0, 1⟩], 2, [], 0, 0⟩ : KS).open nmF 3 = (2, 0, ⟨[⟨nmF, .file b⟩], [0], [⟨1, 0, 1, 0, 1⟩, ⟨2, 0, 3, 0, 1⟩], 3, [], 0, 0⟩) := rfl
theorem pl_keep (b : List UInt8) : (⟨[⟨nmF, .file b⟩], [0], [⟨1, 0, 1, 0, 1⟩, ⟨2, 0, 3, 0, 1⟩], 3, [], 0, 0⟩ : KS).keepE 1 = 0 ∧ (⟨[⟨nmF, .file b⟩], [0], [⟨1, 0, 1, 0, 1⟩, ⟨2, 0, 3, 0, 1⟩], 3, [], 0, 0⟩ : KS).keepK 1 = KPl b 0 0 0 0 := ⟨rfl, rfl⟩
theorem nxt_nil {n : Int} (h1 : 1 ≤ n) (h2 : n ≤ 1048576) : nxt [] n = (n, 0) := by simp [nxt]; omega
theorem pl_read (b : List UInt8) (p1 p2 rd wr : Nat) (n : Int) (h1 : 1 ≤ n) (h2 : n ≤ 1048576) : (KPl b p1 p2 rd wr).read 1 n = (piece b p1 n.toNat, 0, KPl b (p1 + (piece b p1 n.toNat).length) p2 (rd + 1) wr) := by
  have hx : (KPl b p1 p2 rd wr).find 1 = some ⟨1, 0, 1, p1, 2⟩ := rfl
  rw [read_is hx (by show fbit 1 1 ≠ 0; decide) h1 h2 rfl]
  have e : nxt (KPl b p1 p2 rd wr).plan n = (n, 0) := nxt_nil h1 h2
  rw [e, if_pos rfl]
  rfl
theorem pl_write (b x : List UInt8) (p1 rd wr : Nat) (h1 : 1 ≤ x.length) (h2 : x.length ≤ 1048576) : (KPl b p1 0 rd wr).write 2 x = ((x.length : Int), 0, KPl (wrL b 0 x) p1 x.length rd (wr + 1)) := by
  have hx : (KPl b p1 0 rd wr).find 2 = some ⟨2, 0, 3, 0, 1⟩ := rfl
  have hr : refusal ((KPl b p1 0 rd wr).tho ⟨2, 0, 3, 0, 1⟩) 3 0 x.length = 0 := rfl
  rw [write_is hx (by show fbit 3 2 ≠ 0; decide) h1 h2 hr]
  have e : nxt (KPl b p1 0 rd wr).plan x.length = ((x.length : Int), 0) := nxt_nil (by omega) (by omega)
  rw [e, if_pos rfl]
  have hm : min x.length (1048576 - placeOf b 3 0) = x.length := by
    rw [show placeOf b 3 0 = 0 from rfl]; omega
  show (KPl b p1 0 rd wr).writeUp.wrx ⟨2, 0, 3, 0, 1⟩ x x.length = _
  rw [show (KPl b p1 0 rd wr).writeUp.wrx ⟨2, 0, 3, 0, 1⟩ x x.length = (((min x.length (1048576 - placeOf b 3 0) : Nat) : Int), 0, ((KPl b p1 0 rd wr).writeUp.setOb 0 (.file (wrL b (placeOf b 3 0) (x.take (min x.length (1048576 - placeOf b 3 0)))))).setDe ⟨2, 0, 3, placeOf b 3 0 + min x.length (1048576 - placeOf b 3 0), 1⟩) from rfl]
  rw [hm, show placeOf b 3 0 = 0 from rfl, List.take_length, Nat.zero_add]
  rfl
theorem pl_writeN (b x : List UInt8) (p1 rd wr : Nat) (h : x.length = 0 ∨ 1048576 < x.length) : ((KPl b p1 0 rd wr).write 2 x).1 = 0 := by
  have hx : (KPl b p1 0 rd wr).find 2 = some ⟨2, 0, 3, 0, 1⟩ := rfl
  unfold KS.write
  rw [hx]
  simp only
  rw [if_neg (by decide)]
  rcases h with h | h
  · rw [if_neg (by omega), if_pos h]
  · rw [if_pos h]
theorem pl_seek (b : List UInt8) (p1 p2 rd wr : Nat) : (KPl b p1 p2 rd wr).seek 1 0 0 = (0, 0, KPl b 0 p2 rd wr) := rfl
theorem pl_back (b x : List UInt8) (h2 : x.length ≤ 1048576) : piece (wrL b 0 x) 0 x.length = x := by
  unfold wrL
  have : Fi_wrE 0 x.length = 0 := wr_fits (at' := 0) (by omega)
  rw [if_pos this]
  by_cases hx : x = []
  · subst hx; simp [piece]
  · simp [piece, lay, hx]
theorem ktmod_bound (x k : Int) (hk : 0 < k) : -k < x.tmod k ∧ x.tmod k < k := by
  have h2 : ∀ y : Int, 0 ≤ y → 0 ≤ y.tmod k ∧ y.tmod k < k := fun y h => by
    rw [Int.tmod_eq_emod_of_nonneg h]
    exact ⟨Int.emod_nonneg _ (by omega), Int.emod_lt_of_pos _ hk⟩
  rcases Int.le_total 0 x with h | h
  · have := h2 x h; omega
  · have h3 := h2 (-x) (by omega)
    rw [Int.neg_tmod] at h3
    omega
theorem krem_twice (full k : Int) (hk : 0 < k) (hk2 : k ≤ 1048576) : ∃ m : Nat, (wrap64 (full.tmod k + k)).tmod k = (m : Int) ∧ (m : Int) < k := by
  have h1 := ktmod_bound full k hk
  have h2 : wrap64 (full.tmod k + k) = full.tmod k + k := by unfold wrap64; omega
  rw [h2, Int.tmod_eq_emod_of_nonneg (by omega)]
  have h3 := Int.emod_nonneg (full.tmod k + k) (b := k) (by omega)
  have h4 := Int.emod_lt_of_pos (full.tmod k + k) hk
  exact ⟨((full.tmod k + k) % k).toNat, by omega, by omega⟩
theorem take_piece {b : List UInt8} {p n : Nat} (hp : p ≤ b.length) : b.take p ++ piece b p n = b.take (p + (piece b p n).length) := by
  rw [piece_len]
  unfold piece
  rw [← List.take_add]
  by_cases h : n ≤ b.length - p
  · rw [Nat.min_eq_left h]
  · rw [Nat.min_eq_right (by omega), List.take_of_length_le (by omega), List.take_of_length_le (by omega)]
end Go.Proofs.YtdjddcmpffmehaaGreat

/- KernPieces: the kernel's states, as values. -/
namespace Go.Proofs.YtdjddcmpffmehaaGreat
open Go.RowKit Go.Maps

def nmG : ByteArray := ⟨#[103]⟩
/-- Two files: one read, one written. -/
def KPc (b y : List UInt8) (p q : Nat) (L : List Fault) (rd wr : Nat) : KS := ⟨[⟨nmF, .file b⟩, ⟨nmG, .file y⟩], [0, 1], [⟨1, 0, 1, p, 1⟩, ⟨2, 1, 10, q, 1⟩], 3, L, rd, wr⟩
theorem pc_open1 (b : List UInt8) (l : List Fault) : (KS.new [(nmF, b)] [] l).open nmF 1 = (1, 0, ⟨[⟨nmF, .file b⟩], [0], [⟨1, 0, 1, 0, 1⟩], 2, l, 0, 0⟩) := rfl
theorem pc_open2 (b : List UInt8) (l : List Fault) : (⟨[⟨nmF, .file b⟩], [0], [⟨1, 0, 1, 0, 1⟩], 2, l, 0, 0⟩ : KS).open nmG 10 = (2, 0, KPc b [] 0 0 l 0 0) := rfl
theorem pc_read (b y : List UInt8) (p q : Nat) (L : List Fault) (rd wr : Nat) (n : Nat) (hp : p ≤ b.length) (hL : planOk L) (h1 : 1 ≤ n) (h2 : n ≤ 1048576) :
    ∃ Y E, (KPc b y p q L rd wr).read 1 (n : Int) = (Y, E, KPc b y (p + Y.length) q L.tail (rd + 1) wr) ∧ b.take p ++ Y = b.take (p + Y.length) ∧ p + Y.length ≤ b.length ∧ (E = 0 ∨ E = 22 ∨ E = 23) ∧ Y.length ≤ n ∧ (Y.length = 0 → p < b.length → L ≠ []) := by
  have hx : (KPc b y p q L rd wr).find 1 = some ⟨1, 0, 1, p, 1⟩ := rfl
  have n1 : (1 : Int) ≤ (n : Int) := by omega
  have n2 : (n : Int) ≤ 1048576 := by omega
  rw [read_is hx (by show fbit 1 1 ≠ 0; decide) n1 n2 rfl]
  rw [show (KPc b y p q L rd wr).plan = L from rfl]
  rcases nxt_err (l := L) n1 n2 with e | e | e
  · rw [if_pos e]
    have hg := nxt_good hL n1 n2 e
    refine ⟨piece b p (nxt L n).1.toNat, 0, rfl, take_piece hp, ?_, .inl rfl, ?_, ?_⟩
    · rw [piece_len]; omega
    · rw [piece_len]; omega
    · intro h0 hlt; rw [piece_len] at h0; omega
  · rw [if_neg (by omega), e]
    refine ⟨[], 22, rfl, by simp, by simpa using hp, by simp, by simp, fun _ _ hn => ?_⟩
    subst hn
    rw [nxt_nil n1 n2] at e
    cases e
  · rw [if_neg (by omega), e]
    refine ⟨[], 23, rfl, by simp, by simpa using hp, by simp, by simp, fun _ _ hn => ?_⟩
    subst hn
    rw [nxt_nil n1 n2] at e
    cases e
theorem wrL_more (x : List UInt8) (q m : Nat) (hq : q + m ≤ x.length) (hm : 1 ≤ m) (h2 : x.length ≤ 1048576) : wrL (x.take q) q ((x.drop q).take m) = x.take (q + m) := by
  unfold wrL
  have hl : ((x.drop q).take m).length = m := by rw [List.length_take, List.length_drop]; omega
  have hf : Fi_wrE q ((x.drop q).take m).length = 0 := wr_fits (at' := q) (by omega)
  rw [if_pos hf]
  have hne : (x.drop q).take m ≠ [] := by intro e; rw [e] at hl; simp at hl; omega
  have htl : (x.take q).length = q := by rw [List.length_take]; omega
  unfold lay grow
  simp only [hl, htl]
  have hd : (List.take q x ++ List.replicate (q + m - q) (0 : UInt8)).drop (q + m) = [] := List.drop_of_length_le (by rw [List.length_append, htl, List.length_replicate]; omega)
  rw [if_neg hne, Int.toNat_natCast, List.take_append_of_le_length (by omega), List.take_of_length_le (by omega), hd, List.append_nil, List.take_add]
theorem pc_write (b x : List UInt8) (p q : Nat) (L : List Fault) (rd wr : Nat) (hq : q < x.length) (h2 : x.length ≤ 1048576) (hL : planOk L) :
    ∃ (m : Nat) (E : Int), (KPc b (x.take q) p q L rd wr).write 2 (x.drop q) = ((m : Int), E, KPc b (x.take (q + m)) p (q + m) L.tail rd (wr + 1)) ∧ q + m ≤ x.length ∧ (E = 0 ∨ E = 22 ∨ E = 23) ∧ (m = 0 → L ≠ []) := by
  have hx : (KPc b (x.take q) p q L rd wr).find 2 = some ⟨2, 1, 10, q, 1⟩ := rfl
  have hdl : (x.drop q).length = x.length - q := List.length_drop
  have hpl : placeOf (x.take q) 10 q = q := rfl
  have hr : refusal ((KPc b (x.take q) p q L rd wr).tho ⟨2, 1, 10, q, 1⟩) 10 q (x.drop q).length = 0 := by
    show (if placeOf (x.take q) 10 q = 1048576 then (31 : Int) else 0) = 0
    rw [hpl, if_neg (by omega)]
  have n1 : (1 : Int) ≤ ((x.drop q).length : Int) := by omega
  have n2 : ((x.drop q).length : Int) ≤ 1048576 := by omega
  rw [write_is hx (by show fbit 10 2 ≠ 0; decide) (by omega) (by omega) hr]
  rw [show (KPc b (x.take q) p q L rd wr).plan = L from rfl]
  rcases nxt_err (l := L) n1 n2 with e | e | e
  · rw [if_pos e]
    have hg := nxt_good hL n1 n2 e
    obtain ⟨m, hm⟩ : ∃ m : Nat, (nxt L (x.drop q).length).1 = (m : Int) := ⟨(nxt L (x.drop q).length).1.toNat, by omega⟩
    rw [hm] at hg ⊢
    have hmin : min ((m : Int)).toNat (1048576 - placeOf (x.take q) 10 q) = m := by rw [hpl]; omega
    refine ⟨m, 0, ?_, by omega, .inl rfl, fun h0 => by omega⟩
    show (KPc b (x.take q) p q L rd wr).writeUp.wrx ⟨2, 1, 10, q, 1⟩ (x.drop q) m = _
    rw [show (KPc b (x.take q) p q L rd wr).writeUp.wrx ⟨2, 1, 10, q, 1⟩ (x.drop q) m = (((min ((m : Int)).toNat (1048576 - placeOf (x.take q) 10 q) : Nat) : Int), 0, ((KPc b (x.take q) p q L rd wr).writeUp.setOb 1 (.file (wrL (x.take q) (placeOf (x.take q) 10 q) ((x.drop q).take (min ((m : Int)).toNat (1048576 - placeOf (x.take q) 10 q)))))).setDe ⟨2, 1, 10, placeOf (x.take q) 10 q + min ((m : Int)).toNat (1048576 - placeOf (x.take q) 10 q), 1⟩) from rfl]
    rw [hmin, hpl, wrL_more x q m (by omega) (by omega) h2]
    rfl
  · rw [if_neg (by omega), e]
    refine ⟨0, 22, rfl, by omega, by simp, fun _ hn => ?_⟩
    subst hn
    rw [nxt_nil n1 n2] at e
    cases e
  · rw [if_neg (by omega), e]
    refine ⟨0, 23, rfl, by omega, by simp, fun _ hn => ?_⟩
    subst hn
    rw [nxt_nil n1 n2] at e
    cases e
theorem pc_files (b x : List UInt8) (p q : Nat) (L : List Fault) (rd wr : Nat) : (KPc b x p q L rd wr).files = [(nmF, b), (nmG, x)] := rfl
theorem KAt.files {w : World} {O : Nat → Prop} {kb : Nat} {K : KS} (h : KAt w O kb K) :
    Calls Tryz.prog 10 #[.pointer (some ⟨kb, 0, none⟩)] w fun e w' => ∃ v us, e = .returned v ∧ w'.ownsRow w.heap.size 47 2 v K.files.length (ncs K.files us) ∧ LCells w' w.heap.size (K.files.map Prod.snd) us ∧ Below w.heap.size w w' := by
  obtain ⟨ρ, I, h1, rfl, h3⟩ := h
  exact kfiles_any ρ I K w h1
end Go.Proofs.YtdjddcmpffmehaaGreat

/- Rest and Calls of a kernel; what a refused call leaves, as values. -/
namespace Go.Proofs.YtdjddcmpffmehaaGreat
open Go.RowKit Go.Maps

set_option maxRecDepth 100000 in
theorem krest_any (ρ : Nat → Option PTag) (I : PI) (K : KS) (w : World) (h : PK w ρ I K) :
    Calls Tryz.prog 12 #[.pointer (some ⟨I.kb, 0, none⟩)] w fun e w' => ∃ v, e = .returned v ∧ w'.ownsRow w.heap.size 52 2 v K.plan.length (fcs K.plan) ∧ Below w.heap.size w w' := by
  have c0 := h.cells.made
  have c5 := h.cells.plan
  have HR := hide (rest_any I.pb I.pv K.plan w (h.comp .plan).1 (by have := h.ok.plan.1; omega))
  have HM := hide (kmade_any I.kb w c0)
  clear h
  go_enter Tryz.func12, Tryz.ntmps12
  go_wp2_with fail
  refine HM.out.mono ?_
  rintro e w1 ⟨rfl, rfl⟩
  go_wp2_with fail
  refine HR.out.mono ?_
  rintro e w2 ⟨v, rfl, hO, hB⟩
  have HO := hide hO
  have HB := hide hB
  clear hO hB
  go_wp2
  go_ret
  exact ⟨v, rfl, HO.out, HB.out⟩
theorem KAt.rest {w : World} {O : Nat → Prop} {kb : Nat} {K : KS} (h : KAt w O kb K) :
    Calls Tryz.prog 12 #[.pointer (some ⟨kb, 0, none⟩)] w fun e w' => ∃ v, e = .returned v ∧ w'.ownsRow w.heap.size 52 2 v K.plan.length (fcs K.plan) ∧ Below w.heap.size w w' := by
  obtain ⟨ρ, I, h1, rfl, h3⟩ := h
  exact krest_any ρ I K w h1
/-- What is left of a call that answers an error. -/
def Refused (K : KS) (E : Int) (K' : KS) : Prop := K'.files = K.files ∧ ((E ≠ 22 ∧ E ≠ 23 ∧ K'.plan = K.plan) ∨ ((E = 22 ∨ E = 23) ∧ K'.plan = K.plan.tail ∧ K.plan ≠ []))
theorem Refused.same {K : KS} {E : Int} (h1 : E ≠ 22) (h2 : E ≠ 23) : Refused K E K := ⟨rfl, .inl ⟨h1, h2, rfl⟩⟩
theorem refused_open (K : KS) (s : ByteArray) (f : Int) (h : (K.open s f).2.1 ≠ 0) : Refused K (K.open s f).2.1 (K.open s f).2.2 := by
  revert h
  unfold KS.open
  repeat' split
  all_goals first
    | exact fun _ => Refused.same (by simp) (by simp)
    | exact fun h => absurd rfl h
theorem nxt_some {L : List Fault} {n : Int} (h1 : 1 ≤ n) (h2 : n ≤ 1048576) (h : (nxt L n).2 ≠ 0) : L ≠ [] := fun e => by
  subst e
  unfold nxt at h
  rw [if_neg (by omega)] at h
  exact h rfl
theorem rdx_zero {K : KS} {x : De} {m : Int} (h1 : 1 ≤ m) (h2 : m ≤ 1048576) (hw : (K.tho x).waits = false) : (K.rdx x m).2.1 = 0 := by
  unfold KS.rdx
  cases ho : K.tho x with
  | file b => rfl
  | term ls scr =>
    show Te_rdE m = 0
    unfold Te_rdE
    rw [if_pos (show rOk m = true by unfold rOk; exact decide_eq_true ⟨h1, h2⟩)]
  | pipe q rd wt =>
    show Kp_rdE m q.length rd wt = 0
    rw [ho] at hw
    have hc : canR q.length rd wt = true := by simpa [Ob.waits] using hw
    unfold Kp_rdE
    rw [inN_of h1 h2]
    unfold canR at hc
    simp only [Bool.and_eq_true, decide_eq_true_eq, Bool.not_eq_true', decide_eq_false_iff_not] at hc
    rw [if_neg (by decide), if_neg (by omega), if_neg (by simpa using hc.2)]
theorem refused_read (K : KS) (ok : planOk K.plan) (d n : Int) (h : (K.read d n).2.1 ≠ 0) : Refused K (K.read d n).2.1 (K.read d n).2.2 := by
  cases hx : K.find d with
  | none =>
    have e : K.read d n = ([], 64, K) := by unfold KS.read; rw [hx]
    rw [e]; exact Refused.same (by simp) (by simp)
  | some x =>
    by_cases hf : fbit x.flags 1 = 0
    · have e : K.read d n = ([], 65, K) := by unfold KS.read; rw [hx]; simp only; rw [if_pos hf]
      rw [e]; exact Refused.same (by simp) (by simp)
    by_cases hn : n < 0 ∨ 1048576 < n
    · have e : K.read d n = ([], 4, K) := by unfold KS.read; rw [hx]; simp only; rw [if_neg hf, if_pos hn]
      rw [e]; exact Refused.same (by simp) (by simp)
    by_cases h0 : n = 0
    · have e : K.read d n = ([], 0, K) := by unfold KS.read; rw [hx]; simp only; rw [if_neg hf, if_neg hn, if_pos h0]
      rw [e] at h; exact absurd rfl h
    have n1 : 1 ≤ n := by omega
    have n2 : n ≤ 1048576 := by omega
    by_cases hw : (K.tho x).waits = true
    · have e : K.read d n = ([], 52, K) := by unfold KS.read; rw [hx]; simp only; rw [if_neg hf, if_neg hn, if_neg h0, if_pos hw]
      rw [e]; exact Refused.same (by simp) (by simp)
    have hw' : (K.tho x).waits = false := by simpa using hw
    rw [read_is hx hf n1 n2 hw'] at h ⊢
    by_cases e0 : (nxt K.plan n).2 = 0
    · rw [if_pos e0] at h
      have hg := nxt_good ok n1 n2 e0
      exact absurd (rdx_zero (K := K.readUp) hg.1 (by omega) hw') h
    · rw [if_neg e0]
      refine ⟨rfl, .inr ⟨?_, rfl, nxt_some n1 n2 e0⟩⟩
      rcases nxt_err (l := K.plan) n1 n2 with e | e | e
      · exact absurd e e0
      · exact .inl e
      · exact .inr e
theorem wrx_zero {K : KS} {x : De} {b : List UInt8} {m : Int} (h1 : 1 ≤ m) (h2 : m ≤ 1048576) (hl : 1 ≤ b.length) (hl2 : b.length ≤ 1048576) (hr : refusal (K.tho x) x.flags x.pos b.length = 0) : (K.wrx x b m).2.1 = 0 := by
  unfold KS.wrx
  cases ho : K.tho x with
  | file f => rfl
  | term ls scr => rfl
  | pipe q rd wt =>
    show Kp_wrE b.length m q.length rd wt = 0
    rw [ho] at hr
    unfold refusal at hr
    simp only at hr
    by_cases hrd : rd = 0
    · rw [if_pos hrd] at hr; cases hr
    rw [if_neg hrd] at hr
    have hc : canW b.length q.length rd wt = true := by
      cases hcw : canW b.length q.length rd wt with
      | true => rfl
      | false => rw [hcw] at hr; simp at hr
    unfold canW at hc
    simp only [Bool.and_eq_true, decide_eq_true_eq, Bool.or_eq_true, Int.toNat_natCast] at hc
    obtain ⟨_, hwt, hfit⟩ := hc
    have hfit : 0 < fitN b.length b.length q.length := by rcases hfit with h | h <;> omega
    have hf2 : fitN b.length m.toNat q.length ≠ 0 := fit_some hfit (by omega)
    have hre : refE b.length m rd wt = 0 := by
      unfold refE
      rw [if_neg (by omega), inN_of h1 h2, if_neg (by decide), if_neg (by omega), if_neg hrd]
    unfold Kp_wrE
    rw [if_pos hre, if_neg (by omega), if_neg hf2]
theorem refused_write (K : KS) (ok : planOk K.plan) (d : Int) (b : List UInt8) (h : (K.write d b).2.1 ≠ 0) : Refused K (K.write d b).2.1 (K.write d b).2.2 := by
  cases hx : K.find d with
  | none =>
    have e : K.write d b = (0, 64, K) := by unfold KS.write; rw [hx]
    rw [e]; exact Refused.same (by simp) (by simp)
  | some x =>
    by_cases hf : fbit x.flags 2 = 0
    · have e : K.write d b = (0, 65, K) := by unfold KS.write; rw [hx]; simp only; rw [if_pos hf]
      rw [e]; exact Refused.same (by simp) (by simp)
    by_cases hn : 1048576 < b.length
    · have e : K.write d b = (0, 5, K) := by unfold KS.write; rw [hx]; simp only; rw [if_neg hf, if_pos hn]
      rw [e]; exact Refused.same (by simp) (by simp)
    by_cases h0 : b.length = 0
    · have e : K.write d b = (0, 0, K) := by unfold KS.write; rw [hx]; simp only; rw [if_neg hf, if_neg hn, if_pos h0]
      rw [e] at h; exact absurd rfl h
    by_cases hr : refusal (K.tho x) x.flags x.pos b.length = 0
    · have n1 : (1 : Int) ≤ (b.length : Int) := by omega
      have n2 : (b.length : Int) ≤ 1048576 := by omega
      rw [write_is hx hf (by omega) (by omega) hr] at h ⊢
      by_cases e0 : (nxt K.plan b.length).2 = 0
      · rw [if_pos e0] at h
        have hg := nxt_good ok n1 n2 e0
        exact absurd (wrx_zero (K := K.writeUp) hg.1 (by omega) (by omega) (by omega) hr) h
      · rw [if_neg e0]
        refine ⟨rfl, .inr ⟨?_, rfl, nxt_some n1 n2 e0⟩⟩
        rcases nxt_err (l := K.plan) n1 n2 with e | e | e
        · exact absurd e e0
        · exact .inl e
        · exact .inr e
    · have e : K.write d b = (0, refusal (K.tho x) x.flags x.pos b.length, K) := by unfold KS.write; rw [hx]; simp only; rw [if_neg hf, if_neg hn, if_neg h0, if_neg hr]
      rw [e]
      rcases refusal_vals (K.tho x) x.flags x.pos b.length with e | e | e | e <;> exact Refused.same (by show refusal _ _ _ _ ≠ 22; omega) (by show refusal _ _ _ _ ≠ 23; omega)
theorem refused_seek (K : KS) (d o wh : Int) (h : (K.seek d o wh).2.1 ≠ 0) : Refused K (K.seek d o wh).2.1 (K.seek d o wh).2.2 := by
  revert h
  unfold KS.seek
  repeat' split
  all_goals first
    | exact fun _ => Refused.same (by simp) (by simp)
    | exact fun h => absurd rfl h
end Go.Proofs.YtdjddcmpffmehaaGreat

/- KernOwn: Spoil, and what it leaves of rows of bytes. -/
namespace Go.Proofs.YtdjddcmpffmehaaGreat
open Go.RowKit Go.Maps

/-- The first n cells of the block are bytes, and may be written. -/
def U8p (W : World) (b n : Nat) : Prop := (∃ cur : List Value, W.heap[b]? = some (.cells cur.toArray 5 (0, 0)) ∧ n ≤ cur.length) ∧ ∀ j, j < n → ∃ c, W.cell? ⟨b, j, none⟩ = some (.int .u8 c)
theorem U8p.soft {W : World} {b n : Nat} (h : U8p W b n) (j : Nat) : W.frozen? ⟨b, j, none⟩ = false := by
  obtain ⟨⟨cur, e, _⟩, _⟩ := h
  exact frozen_of_row W b j _ _ e
theorem U8p.lt {W : World} {b n : Nat} (h : U8p W b n) : b < W.heap.size := by
  obtain ⟨⟨cur, e, _⟩, _⟩ := h
  exact (Array.getElem?_eq_some_iff.1 e).1
theorem ucell_same {W W' : World} {t off : Nat} (hB : W'.heap[t]? = W.heap[t]?) : W'.cell? ⟨t, off, none⟩ = W.cell? ⟨t, off, none⟩ := by
  simp only [World.cell?]
  rw [hB]
theorem U8p.keep {W W' : World} {b n : Nat} (h : U8p W b n) (hB : W'.heap[b]? = W.heap[b]?) : U8p W' b n := ⟨by rw [hB]; exact h.1, fun j hj => by rw [ucell_same hB]; exact h.2 j hj⟩
theorem U8p.set {W : World} {b n : Nat} (h : U8p W b n) (g k : Nat) (c : Int) {u : Value} (hu : W.cell? ⟨g, k, none⟩ = some u) : U8p (W.setCell ⟨g, k, none⟩ (.int .u8 c)) b n := by
  by_cases e : b = g
  · subst e
    obtain ⟨⟨cur, e1, e2⟩, h2⟩ := h
    refine ⟨⟨_, heap_setCell_same k _ e1, by simpa using e2⟩, fun j hj => ?_⟩
    by_cases e : j = k
    · subst e
      exact ⟨c, World.cell?_setCell_same' _ _ _ (by rw [hu]; rfl)⟩
    · rw [World.cell?_setCell_other (w := W) (a := ⟨b, k, none⟩) (b := ⟨b, j, none⟩) (v := .int .u8 c) (fun e' => e (by cases e'; rfl))]
      exact h2 j hj
  · exact h.keep (Below.heap_setCell _ _ _ _ e)
/-- A slice value of n bytes, all of whose cells are there. -/
def U8v (W : World) (v : Value) (n : Nat) : Prop := (v = .slice none 0 0 ∧ n = 0) ∨ ∃ b c, v = .slice (some ⟨b, 0, none⟩) n c ∧ U8p W b n
theorem u8_of_owns {W : World} {B : Nat} {v : Value} {l : List UInt8} (h : W.ownsRow B 5 1 v l.length (l.map bv)) : U8v W v l.length := by
  have hx := h
  rcases h.2 with ⟨e, h0⟩ | ⟨g, cap, cur, rfl, _, h1, h2, _, h3, _⟩
  · exact .inl ⟨e, h0⟩
  · refine .inr ⟨g, cap, rfl, ⟨cur.toList, by simpa using h1, by simp; omega⟩, fun j hj => ?_⟩
    rw [hx.cellAt j (by omega), List.getElem?_map, List.getElem?_eq_getElem hj]
    exact ⟨_, rfl⟩
theorem U8v.keep {W W' : World} {v : Value} {n : Nat} (h : U8v W v n) (hk : ∀ b m, U8p W b m → U8p W' b m) : U8v W' v n := by
  rcases h with h | ⟨b, c, h1, h2⟩
  · exact .inl h
  · exact .inr ⟨b, c, h1, hk b n h2⟩
set_option maxRecDepth 100000 in
set_option maxHeartbeats 1000000 in
theorem spoil_u8 (v : Value) (n : Nat) (w : World) (h : U8v w v n) (hs : n ≤ maxLen) :
    Calls Tryz.prog 11 #[v] w fun e w' => e = .returned (.tuple #[]) ∧ Turned (fun k => v.ownBlock = some k) w w' ∧ ∀ b m, U8p w b m → U8p w' b m := by
  unfold maxLen at hs
  rcases h with ⟨rfl, h0⟩ | ⟨g, cap, rfl, hU⟩
  · go_enter Tryz.func11, Tryz.ntmps11
    go_wp2
    go_loopw [2] (fun i wr => i = .int .i64 0 ∧ wr = w) (fun _ _ => 0)
    case atStart => exact ⟨rfl, rfl⟩
    case round =>
      obtain ⟨rfl, rfl⟩ := hrel
      go_wp2
      go_end0
      exact ⟨rfl, Turned.refl _ _, fun _ _ h => h⟩
  · have HU := hide hU
    clear hU
    go_enter Tryz.func11, Tryz.ntmps11
    go_wp2
    go_loopw [2] (fun i wr => ∃ k : Nat, k ≤ n ∧ i = .int .i64 k ∧ Hid (∀ b m, U8p w b m → U8p wr b m) ∧ Hid (Turned (fun k => (Value.slice (some ⟨g, 0, none⟩) n cap).ownBlock = some k) w wr)) (fun i _ => n - (intOf i).toNat)
    case atStart => exact ⟨0, Nat.zero_le _, rfl, hide (fun _ _ h => h), hide (Turned.refl _ _)⟩
    case round =>
      obtain ⟨k, hk, rfl, HK, HT⟩ := hrel
      by_cases hlt : k < n
      · have hu := HK.out g n HU.out
        obtain ⟨c, hc⟩ := hu.2 k hlt
        have hf := hu.soft k
        have hk1 : (0 : Int) ≤ (k : Int) := by omega
        have hk2 : (k : Int) < (n : Int) := by omega
        have HK2 : Hid (∀ b m, U8p w b m → U8p (wr.setCell ⟨g, k, none⟩ (.int .u8 (bits .xor .u8 c 85))) b m) := hide (fun b m h => (HK.out b m h).set g k _ hc)
        have HT2 : Hid (Turned (fun k => (Value.slice (some ⟨g, 0, none⟩) n cap).ownBlock = some k) w (wr.setCell ⟨g, k, none⟩ (.int .u8 (bits .xor .u8 c 85)))) := hide (HT.out.set (.inl rfl))
        clear hu
        go_wp2
        go_roundw
        case rel => exact ⟨k + 1, by omega, by go_num, HK2, HT2⟩
        case measure => simp [intOf]; omega
      · go_wp2
        go_end0
        exact ⟨rfl, HT.out, HK.out⟩
end Go.Proofs.YtdjddcmpffmehaaGreat

/- KernOwn: what spoiling a Config leaves. -/
namespace Go.Proofs.YtdjddcmpffmehaaGreat
open Go.RowKit Go.Maps

def T8 (W : World) (k : Nat) : Prop := ∃ cur : List Value, W.heap[k]? = some (.cells cur.toArray 5 (0, 0))
def TN (W : World) (k : Nat) : Prop := ∃ cur : List Value, W.heap[k]? = some (.cells cur.toArray 47 (0, 0))
theorem U8p.t8 {W : World} {b n : Nat} (h : U8p W b n) : T8 W b := by
  obtain ⟨⟨cur, e, _⟩, _⟩ := h
  exact ⟨cur, e⟩
theorem t8_tn {W : World} {k : Nat} (h : T8 W k) (h' : TN W k) : False := by
  obtain ⟨c, e⟩ := h
  obtain ⟨c', e'⟩ := h'
  rw [e] at e'
  cases e'
/-- How far the world has come while a Config (its blocks: C; its row of files: fb) was spoilt. -/
structure Sp1 (C : Nat → Prop) (fb : Option Nat) (w6 wr : World) : Prop where
  tu : Turned (fun k => C k ∧ (T8 w6 k ∨ fb = some k)) w6 wr
  u8 : ∀ b m, U8p w6 b m → U8p wr b m
  tn : ∀ g, fb = some g → TN w6 g ∧ TN wr g
  od : ∀ g, fb = some g → ∀ j u, w6.cell? ⟨g, j * 2 + 1, none⟩ = some u → wr.cell? ⟨g, j * 2 + 1, none⟩ = some u
  ev : ∀ g, fb = some g → ∀ j s, w6.cell? ⟨g, j * 2, none⟩ = some (.string s) → ∃ s', wr.cell? ⟨g, j * 2, none⟩ = some (.string s')
theorem Sp1.refl {C : Nat → Prop} {fb : Option Nat} {w6 : World} (h : ∀ g, fb = some g → TN w6 g) : Sp1 C fb w6 w6 :=
  ⟨Turned.refl _ _, fun _ _ h => h, fun g e => ⟨h g e, h g e⟩, fun _ _ _ _ h => h, fun _ _ _ s h => ⟨s, h⟩⟩
theorem Sp1.spoil {C : Nat → Prop} {fb : Option Nat} {w6 wr : World} (h : Sp1 C fb w6 wr) {v : Value} {n : Nat} (hv : U8v w6 v n) (hC : ∀ k, v.ownBlock = some k → C k) (hs : n ≤ maxLen) :
    Calls Tryz.prog 11 #[v] wr fun e w' => e = .returned (.tuple #[]) ∧ Sp1 C fb w6 w' := by
  refine (spoil_u8 v n wr (hv.keep h.u8) hs).mono fun e w' ⟨h1, h2, h3⟩ => ⟨h1, ?_⟩
  have hb : ∀ k, v.ownBlock = some k → T8 w6 k ∧ T8 wr k := fun k e => by
    rcases hv with ⟨rfl, _⟩ | ⟨b, c, rfl, hu⟩
    · cases e
    · cases e
      exact ⟨hu.t8, (h.u8 b n hu).t8⟩
  have hne : ∀ g, fb = some g → w'.heap[g]? = wr.heap[g]? := fun g e => by
    have ht := (h.tn g e).2
    obtain ⟨cur, e2⟩ := ht
    exact h2.block g (Array.getElem?_eq_some_iff.1 e2).1 (fun e3 => t8_tn (hb g e3).2 ⟨cur, e2⟩)
  refine ⟨h.tu.trans h2 (fun k _ e => ⟨hC k e, .inl (hb k e).1⟩), fun b m q => h3 b m (h.u8 b m q), fun g e => ⟨(h.tn g e).1, ?_⟩, fun g e j u q => ?_, fun g e j s q => ?_⟩
  · obtain ⟨cur, e2⟩ := (h.tn g e).2
    exact ⟨cur, (hne g e).trans e2⟩
  · rw [ucell_same (hne g e)]; exact h.od g e j u q
  · rw [ucell_same (hne g e)]; exact h.ev g e j s q
theorem Sp1.name {C : Nat → Prop} {w6 wr : World} {g j : Nat} {s x : ByteArray} (h : Sp1 C (some g) w6 wr) (hC : C g) (hc : wr.cell? ⟨g, j * 2, none⟩ = some (.string s)) : Sp1 C (some g) w6 (wr.setCell ⟨g, j * 2, none⟩ (.string x)) := by
  obtain ⟨t1, t2⟩ := h.tn g rfl
  refine ⟨h.tu.trans ((Turned.refl (fun k => k = g) wr).set (.inl rfl)) (fun k _ e => ⟨by rw [e]; exact hC, .inr (by rw [e])⟩), fun b m q => ?_, fun g' e => ?_, fun g' e i u q => ?_, fun g' e i s' q => ?_⟩
  · exact (h.u8 b m q).keep (Below.heap_setCell _ _ _ _ (fun e => t8_tn q.t8 (e ▸ t1)))
  · cases e
    obtain ⟨cur, e2⟩ := t2
    exact ⟨t1, ⟨_, heap_setCell_same _ _ e2⟩⟩
  · cases e
    rw [World.cell?_setCell_other (w := wr) (a := ⟨g, j * 2, none⟩) (b := ⟨g, i * 2 + 1, none⟩) (v := .string x) (fun e' => by simp only [Addr.mk.injEq] at e'; omega)]
    exact h.od g rfl i u q
  · cases e
    by_cases e : i = j
    · subst e
      exact ⟨x, World.cell?_setCell_same' _ _ _ (by rw [hc]; rfl)⟩
    · rw [World.cell?_setCell_other (w := wr) (a := ⟨g, j * 2, none⟩) (b := ⟨g, i * 2, none⟩) (v := .string x) (fun e' => by simp only [Addr.mk.injEq] at e'; omega)]
      exact h.ev g rfl i s' q
theorem Sp1.other {C : Nat → Prop} {fb : Option Nat} {w6 wr : World} (h : Sp1 C fb w6 wr) {b : Nat} {e : TypeId} {cur : List Value} (hh : w6.heap[b]? = some (.cells cur.toArray e (0, 0))) (h8 : e ≠ 5) (hn : e ≠ 47) : wr.heap[b]? = w6.heap[b]? := by
  refine h.tu.block b (Array.getElem?_eq_some_iff.1 hh).1 (fun e' => ?_)
  rcases e'.2 with ⟨c, e2⟩ | e2
  · rw [hh] at e2
    exact h8 (by cases e2; rfl)
  · obtain ⟨c, e3⟩ := (h.tn b e2).1
    rw [hh] at e3
    exact hn (by cases e3; rfl)
theorem Sp1.other' {C : Nat → Prop} {w6 wr : World} (h : Sp1 C none w6 wr) {b : Nat} {e : TypeId} {cur : List Value} (hh : w6.heap[b]? = some (.cells cur.toArray e (0, 0))) (h8 : e ≠ 5) : wr.heap[b]? = w6.heap[b]? := by
  refine h.tu.block b (Array.getElem?_eq_some_iff.1 hh).1 (fun e' => ?_)
  rcases e'.2 with ⟨c, e2⟩ | e2
  · rw [hh] at e2
    exact h8 (by cases e2; rfl)
  · cases e2
/-- A row of faults that may be overwritten. -/
def FSp (W : World) (g n : Nat) : Prop := ∃ cur : List Value, W.heap[g]? = some (.cells cur.toArray 52 (0, 0)) ∧ n * 2 ≤ cur.length
theorem FSp.set {W : World} {g n : Nat} (h : FSp W g n) (j k : Nat) (u v : Value) : FSp ((W.setCell ⟨g, j, none⟩ u).setCell ⟨g, k, none⟩ v) g n := by
  obtain ⟨cur, h1, h2⟩ := h
  exact ⟨_, heap_setCell_same k v (heap_setCell_same j u h1), by simpa using h2⟩
theorem FSp.cell {W : World} {g n k : Nat} (h : FSp W g n) (hk : k < n * 2) : ∃ u, W.cell? ⟨g, k, none⟩ = some u := by
  obtain ⟨cur, h1, h2⟩ := h
  exact ⟨cur[k], by rw [cell_of_row _ _ _ _ _ _ h1, List.getElem?_toArray, List.getElem?_eq_getElem (by omega)]⟩
theorem FSp.soft {W : World} {g n : Nat} (h : FSp W g n) (k : Nat) : W.frozen? ⟨g, k, none⟩ = false := by
  obtain ⟨cur, h1, h2⟩ := h
  exact frozen_of_row W g k _ _ h1
theorem fsp_of {W : World} {B g n c : Nat} {xs : List Value} (h : W.ownsRow B 52 2 (.slice (some ⟨g, 0, none⟩) n c) n xs) : FSp W g n := by
  rcases h.2 with ⟨e, _⟩ | ⟨g', cap, cur, e, _, h1, h2, _, h3, _⟩
  · cases e
  · cases e
    exact ⟨cur.toList, by simpa using h1, by simp; omega⟩
theorem fault_addr {W : World} {B n c : Nat} {a : Option Addr} {xs : List Value} (h : W.ownsRow B 52 2 (.slice a n c) n xs) (hn : 0 < n) : ∃ g, a = some ⟨g, 0, none⟩ ∧ B ≤ g ∧ g < W.heap.size ∧ FSp W g n := by
  rcases h.2 with ⟨e, h0⟩ | ⟨g, cap, cur, e, hB, h1, _⟩
  · omega
  · cases e
    exact ⟨g, rfl, hB, (Array.getElem?_eq_some_iff.1 h1).1, fsp_of h⟩
theorem new_plan (fs : List Nm) (ts : List Tp) (l : List Fault) : (KS.new fs ts l).plan = l := by
  have h1 : ∀ (fs : List Nm) (K : KS), (fs.foldl (fun K f => K.addTh ⟨f.1, .file f.2⟩) K).plan = K.plan := fun fs => by
    induction fs with
    | nil => intro K; rfl
    | cons f r ih => intro K; rw [List.foldl_cons, ih]; rfl
  have h2 : ∀ (ts : List Tp) (K : KS), (ts.foldl (fun K t => K.addTh ⟨t.1, .term t.2 []⟩) K).plan = K.plan := fun ts => by
    induction ts with
    | nil => intro K; rfl
    | cons f r ih => intro K; rw [List.foldl_cons, ih]; rfl
  unfold KS.new
  rw [h2, h1]
  rfl
/-- The cells of a row of names and values. -/
theorem ncs_pair {α : Type} : ∀ (l : List (ByteArray × α)) (us : List Value), us.length = l.length → ∀ j (hj : j < l.length), (ncs l us)[j * 2]? = some (.string l[j].1) ∧ (ncs l us)[j * 2 + 1]? = us[j]?
  | [], _, _, j, hj => absurd hj (Nat.not_lt_zero _)
  | p :: l, u :: us, h, 0, _ => ⟨rfl, rfl⟩
  | p :: l, u :: us, h, j + 1, hj => by
    have := ncs_pair l us (by simpa using h) j (by simpa using hj)
    rw [show (j + 1) * 2 = j * 2 + 1 + 1 by omega]
    simpa [ncs] using this
theorem row_at {W : World} {B e size : Nat} {va : Option Addr} {vc N j : Nat} {xs : List Value} {u : Value} (h : W.ownsRow B e size (.slice va N vc) N xs) (hN : 0 < N) (hj : j < N * size) (hs : xs[j]? = some u) : ∃ vb, va = some ⟨vb, 0, none⟩ ∧ W.cell? ⟨vb, j, none⟩ = some u ∧ (∃ cur : List Value, W.heap[vb]? = some (.cells cur.toArray e (0, 0))) ∧ B ≤ vb := by
  have hx := h
  rcases h.2 with ⟨e, _⟩ | ⟨g, cap, cur, e, hB, hh, _⟩
  · simp only [Value.slice.injEq] at e; omega
  · simp only [Value.slice.injEq] at e
    obtain ⟨rfl, _, rfl⟩ := e
    exact ⟨g, rfl, by rw [hx.cellAt j hj, hs], ⟨cur.toList, by simpa using hh⟩, hB⟩
end Go.Proofs.YtdjddcmpffmehaaGreat

/- KernOwn: the terminals of a kernel, one by one, as values. -/
namespace Go.Proofs.YtdjddcmpffmehaaGreat
open Go.RowKit Go.Maps

theorem new_th (fs : List Nm) (ts : List Tp) (l : List Fault) : (KS.new fs ts l).th = (fs.map fun f => (⟨f.1, .file f.2⟩ : Th)) ++ ts.map (fun t => (⟨t.1, .term t.2 []⟩ : Th)) ∧ (KS.new fs ts l).de = [] := by
  have h1 : ∀ (fs : List Nm) (K : KS), (fs.foldl (fun K f => K.addTh ⟨f.1, .file f.2⟩) K).th = K.th ++ (fs.map fun f => (⟨f.1, .file f.2⟩ : Th)) ∧ (fs.foldl (fun K f => K.addTh ⟨f.1, .file f.2⟩) K).de = K.de := fun fs => by
    induction fs with
    | nil => intro K; simp
    | cons f r ih => intro K; rw [List.foldl_cons, (ih _).1, (ih _).2]; simp [KS.addTh]
  have h2 : ∀ (ts : List Tp) (K : KS), (ts.foldl (fun K t => K.addTh ⟨t.1, .term t.2 []⟩) K).th = K.th ++ (ts.map fun t => (⟨t.1, .term t.2 []⟩ : Th)) ∧ (ts.foldl (fun K t => K.addTh ⟨t.1, .term t.2 []⟩) K).de = K.de := fun ts => by
    induction ts with
    | nil => intro K; simp
    | cons f r ih => intro K; rw [List.foldl_cons, (ih _).1, (ih _).2]; simp [KS.addTh]
  unfold KS.new
  rw [(h2 _ _).1, (h2 _ _).2, (h1 _ _).1, (h1 _ _).2]
  exact ⟨rfl, rfl⟩
/-- The terminals from j on are as they came in; no description is there. -/
structure Tm (fs : List Nm) (ts : List Tp) (g : List Fault) (j : Nat) (K : KS) : Prop where
  de : K.de = []
  plan : K.plan = g
  th : ∀ i (hi : i < ts.length), j ≤ i → K.th[fs.length + i]? = some ⟨ts[i].1, .term ts[i].2 []⟩
theorem tm_new (fs : List Nm) (ts : List Tp) (g : List Fault) : Tm fs ts g 0 (KS.new fs ts g) := by
  refine ⟨(new_th fs ts g).2, new_plan fs ts g, fun i hi _ => ?_⟩
  rw [(new_th fs ts g).1, List.getElem?_append_right (by simp), List.length_map, Nat.add_sub_cancel_left, List.getElem?_map, List.getElem?_eq_getElem hi]
  rfl
theorem byName_of {K : KS} (h : KNm K) {p : Nat} (hp : p ∈ K.nm) : K.byName (K.nameOf p) = some p := by
  cases hb : K.byName (K.nameOf p) with
  | none => exact absurd rfl (byName_none hb p hp)
  | some q =>
    obtain ⟨hq, hn⟩ := byName_some hb
    by_cases e : q = p
    · rw [e]
    · have key : ∀ (l : List Nat), l.Pairwise (fun i j => nlt (K.nameOf i) (K.nameOf j)) → p ∈ l → q ∈ l → K.nameOf p ≠ K.nameOf q := fun l => by
        induction l with
        | nil => intro _ h; cases h
        | cons a r ih =>
          intro hl h1 h2
          rw [List.pairwise_cons] at hl
          rcases List.mem_cons.1 h1 with e1 | m1
          · rcases List.mem_cons.1 h2 with e2 | m2
            · exact absurd (e2.trans e1.symm) e
            · rw [e1]; exact nlt_ne (hl.1 q m2)
          · rcases List.mem_cons.1 h2 with e2 | m2
            · rw [e2]; exact (nlt_ne (hl.1 p m1)).symm
            · exact ih hl.2 m1 m2
      exact absurd hn.symm (key K.nm h.sorted hp hq)
theorem Tm.open {fs : List Nm} {ts : List Tp} {g : List Fault} {j : Nat} {K : KS} (h : Tm fs ts g j K) (hn : KNm K) (hj : j < ts.length) : K.open ts[j].1 1 = ((K.next : Int), 0, K.newDe (fs.length + j) 1) := by
  have ht := h.th j hj (Nat.le_refl _)
  have hlt : fs.length + j < K.th.length := (List.getElem?_eq_some_iff.1 ht).1
  have ho : K.obOf (fs.length + j) = .term ts[j].2 [] := by unfold KS.obOf; rw [ht]; rfl
  have hnm : K.nameOf (fs.length + j) = ts[j].1 := by unfold KS.nameOf; rw [ht]; rfl
  have hm := hn.all (fs.length + j) hlt (by rw [ho]; show (2 : Int) ≠ 3; decide)
  have hb := byName_of hn hm
  have hok := hn.ok _ hm
  rw [hnm] at hb hok
  unfold KS.open
  rw [if_neg (by rw [hok]; decide), if_neg (by rw [show flagsOk 1 = true from rfl]; decide), if_neg (by rw [h.de]; decide), hb]
  simp only
  rw [if_pos (by decide)]
  have : K.cut (fs.length + j) 1 = K := by unfold KS.cut; rw [if_neg (by decide)]
  rw [this]
theorem tm_find {K : KS} (hd : K.de = []) (p : Nat) : (K.newDe p 1).find (K.next : Int) = some ⟨K.next, p, 1, 0, 1⟩ := by
  unfold KS.find KS.newDe
  rw [hd]
  simp
theorem Tm.kind {fs : List Nm} {ts : List Tp} {g : List Fault} {j : Nat} {K : KS} (h : Tm fs ts g j K) (hj : j < ts.length) : (K.newDe (fs.length + j) 1).kindOf (K.next : Int) = 2 := by
  unfold KS.kindOf
  rw [tm_find h.de]
  simp only
  unfold KS.tho
  rw [show (K.newDe (fs.length + j) 1).th[(⟨K.next, fs.length + j, 1, 0, 1⟩ : De).th]? = K.th[fs.length + j]? from rfl, h.th j hj (Nat.le_refl _)]
  rfl
theorem Tm.drop {fs : List Nm} {ts : List Tp} {g : List Fault} {j : Nat} {K : KS} (h : Tm fs ts g j K) (hj : j < ts.length) : Tm fs ts g (j + 1) ((K.newDe (fs.length + j) 1).dropK (K.next : Int)) := by
  have ho : (K.newDe (fs.length + j) 1).tho ⟨K.next, fs.length + j, 1, 0, 1⟩ = .term ts[j].2 [] := by
    unfold KS.tho
    rw [show (K.newDe (fs.length + j) 1).th[(⟨K.next, fs.length + j, 1, 0, 1⟩ : De).th]? = K.th[fs.length + j]? from rfl, h.th j hj (Nat.le_refl _)]
    rfl
  unfold KS.dropK
  rw [tm_find h.de]
  simp only
  rw [if_neg (by decide), ho]
  refine ⟨?_, h.plan, fun i hi hij => h.th i hi (by omega)⟩
  show (K.de ++ [_]).filter _ = []
  rw [h.de]
  simp
theorem Tm.next {fs : List Nm} {ts : List Tp} {g : List Fault} {j : Nat} {K : KS} (hj : j < ts.length) (h : Tm fs ts g j K) : ((K.newDe (fs.length + j) 1).dropK (K.next : Int)).next = K.next + 1 ∧ ((K.newDe (fs.length + j) 1).dropK (K.next : Int)).reads = K.reads := by
  have ho : (K.newDe (fs.length + j) 1).tho ⟨K.next, fs.length + j, 1, 0, 1⟩ = .term ts[j].2 [] := by
    unfold KS.tho
    rw [show (K.newDe (fs.length + j) 1).th[(⟨K.next, fs.length + j, 1, 0, 1⟩ : De).th]? = K.th[fs.length + j]? from rfl, h.th j hj (Nat.le_refl _)]
    rfl
  unfold KS.dropK
  rw [tm_find h.de]
  simp only
  rw [if_neg (by decide), ho]
  exact ⟨rfl, rfl⟩
/-- The state behind a read of the terminal. -/
def KS.tread (K : KS) (p : Nat) (ls : List (List UInt8)) : KS := ((K.newDe p 1).readUp).setOb p (.term (rdR ls 1048576) [])
theorem Tm.read {fs : List Nm} {ts : List Tp} {j : Nat} {K : KS} (h : Tm fs ts [] j K) (hj : j < ts.length) : (K.newDe (fs.length + j) 1).read (K.next : Int) 1048576 = (rdH ts[j].2 1048576, 0, K.tread (fs.length + j) ts[j].2) := by
  have ho : (K.newDe (fs.length + j) 1).tho ⟨K.next, fs.length + j, 1, 0, 1⟩ = .term ts[j].2 [] := by
    unfold KS.tho
    rw [show (K.newDe (fs.length + j) 1).th[(⟨K.next, fs.length + j, 1, 0, 1⟩ : De).th]? = K.th[fs.length + j]? from rfl, h.th j hj (Nat.le_refl _)]
    rfl
  rw [read_is (tm_find h.de _) (by show fbit 1 1 ≠ 0; decide) (by decide) (by decide) (by rw [ho]; rfl)]
  have e : nxt (K.newDe (fs.length + j) 1).plan 1048576 = (1048576, 0) := by
    rw [show (K.newDe (fs.length + j) 1).plan = [] from h.plan]
    exact nxt_nil (by decide) (by decide)
  rw [e, if_pos rfl]
  unfold KS.rdx
  rw [show (K.newDe (fs.length + j) 1).readUp.tho ⟨K.next, fs.length + j, 1, 0, 1⟩ = .term ts[j].2 [] from ho]
  rfl
theorem Tm.read_drop {fs : List Nm} {ts : List Tp} {j : Nat} {K : KS} (h : Tm fs ts [] j K) (hj : j < ts.length) : Tm fs ts [] (j + 1) ((K.tread (fs.length + j) ts[j].2).dropK (K.next : Int)) ∧ ((K.tread (fs.length + j) ts[j].2).dropK (K.next : Int)).next = K.next + 1 ∧ ((K.tread (fs.length + j) ts[j].2).dropK (K.next : Int)).reads = K.reads + 1 := by
  have ht := h.th j hj (Nat.le_refl _)
  have hlt : fs.length + j < K.th.length := (List.getElem?_eq_some_iff.1 ht).1
  have hf : (K.tread (fs.length + j) ts[j].2).find (K.next : Int) = some ⟨K.next, fs.length + j, 1, 0, 1⟩ := tm_find h.de _
  have ho : (K.tread (fs.length + j) ts[j].2).tho ⟨K.next, fs.length + j, 1, 0, 1⟩ = .term (rdR ts[j].2 1048576) [] := by
    show (((K.th.modify (fs.length + j) _)[fs.length + j]?).map Th.ob).getD _ = _
    rw [List.getElem?_modify, ht]
    simp
  unfold KS.dropK
  rw [hf]
  simp only
  rw [if_neg (by decide), ho]
  refine ⟨⟨?_, ?_, fun i hi hij => ?_⟩, rfl, rfl⟩
  · show (K.de ++ [_]).filter _ = []
    rw [h.de]
    simp
  · show K.plan.tail = []
    rw [h.plan]
    rfl
  · show (K.th.modify (fs.length + j) _)[fs.length + i]? = _
    rw [List.getElem?_modify, h.th i hi (by omega)]
    simp
    intro e
    omega
theorem rdH_first {ls : List (List UInt8)} (h : 0 < ls.length) (h4 : ls[0].length ≤ 4096) : rdH ls 1048576 = ls[0] := by
  cases ls with
  | nil => simp at h
  | cons l r =>
    unfold rdH
    rw [if_pos (by decide)]
    show l.take _ = l
    exact List.take_of_length_le (by simp only [List.getElem_cons_zero] at h4; show l.length ≤ 1048576; omega)
theorem kterms_new {ns : List ByteArray} {ts : List Tp} (h : kterms ns ts = 0) : ∀ j (hj : j < ts.length), newE ts[j].2 = 0 := by
  induction ts generalizing ns with
  | nil => intro j hj; exact absurd hj (Nat.not_lt_zero _)
  | cons t r ih =>
    obtain ⟨n, d⟩ := t
    rw [kterms_cons] at h
    split at h
    · split at h
      · intro j hj
        cases j with
        | zero => assumption
        | succ i => exact ih h i (by simpa using hj)
      · rename_i h1; exact absurd h h1
    · rename_i h1; exact absurd h h1
theorem check_terms {fs : List Nm} {ts : List Tp} {g : List Fault} (h : checkE fs ts g = 0) : ∀ j (hj : j < ts.length), newE ts[j].2 = 0 := by
  unfold checkE at h
  split at h
  · cases h
  · split at h
    · split at h
      · rename_i h1; exact kterms_new h1
      · rename_i h1; exact absurd h h1
    · rename_i h1; exact absurd h h1
end Go.Proofs.YtdjddcmpffmehaaGreat

/- Handles: their calls, those of no kernel, and two kernels side by side. -/
namespace Go.Proofs.YtdjddcmpffmehaaGreat
open Go.RowKit Go.Maps

theorem described_nil (d : Int) (w : World) : Calls Tryz.prog 46 #[.pointer none, .int .i64 d] w fun e w' => e = .returned (.tuple #[.pointer none, .int .i64 2]) ∧ w = w' := by
  go_enter Tryz.func46, Tryz.ntmps46
  go_wp2_with fail
  refine (kmade_nil w).mono ?_
  rintro e w1 ⟨rfl, rfl⟩
  go_wp2
  go_ret2
  exact ⟨rfl, rfl⟩
set_option maxRecDepth 100000 in
set_option maxHeartbeats 1000000 in
theorem kread_nil (d n : Int) (w : World) : Calls Tryz.prog 17 #[.pointer none, .int .i64 d, .int .i64 n] w fun e w' => e = .returned (.tuple #[.slice none 0 0, .int .i64 2]) ∧ w = w' := by
  go_enter Tryz.func17, Tryz.ntmps17
  go_wp2_with fail
  refine (described_nil d w).mono ?_
  rintro e w1 ⟨rfl, rfl⟩
  go_wp2
  go_ret2
  exact ⟨rfl, rfl⟩
set_option maxRecDepth 100000 in
set_option maxHeartbeats 1000000 in
theorem kwrite_nil (d : Int) (a : Option Addr) (n c : Nat) (w : World) : Calls Tryz.prog 22 #[.pointer none, .int .i64 d, .slice a n c] w fun e w' => e = .returned (.tuple #[.int .i64 0, .int .i64 2]) ∧ w = w' := by
  go_enter Tryz.func22, Tryz.ntmps22
  go_wp2_with fail
  refine (described_nil d w).mono ?_
  rintro e w1 ⟨rfl, rfl⟩
  go_wp2
  go_ret2
  exact ⟨rfl, rfl⟩
set_option maxRecDepth 100000 in
set_option maxHeartbeats 1000000 in
theorem kseek_nil (d o h : Int) (w : World) : Calls Tryz.prog 23 #[.pointer none, .int .i64 d, .int .i64 o, .int .i64 h] w fun e w' => e = .returned (.tuple #[.int .i64 0, .int .i64 2]) ∧ w = w' := by
  go_enter Tryz.func23, Tryz.ntmps23
  go_wp2_with fail
  refine (described_nil d w).mono ?_
  rintro e w1 ⟨rfl, rfl⟩
  go_wp2
  go_ret2
  exact ⟨rfl, rfl⟩
/-- A step behind blocks that are new. -/
theorem KStep.behind {w w1 w' : World} {O : Nat → Prop} {kb : Nat} {K : KS} (h : KStep w1 O kb K w') (hB : Below w.heap.size w w1) : KStep w O kb K w' := by
  obtain ⟨O', h1, h2, h3⟩ := h
  exact ⟨O', h1, fun k e => (h2 k e).imp id (fun e => Nat.le_trans hB.size e), (Turned.of_below hB).trans h3 (fun _ _ e => e)⟩
theorem KAt.rstep {w w' : World} {O : Nat → Prop} {kb : Nat} {K' : KS} (h : KAt w' O kb K') (hT : Turned O w w') : KStep w O kb K' w' := ⟨O, h, fun _ e => .inl e, hT⟩
/-- Two kernels that share nothing, from a base on. -/
def Two (W : World) (B kb mb : Nat) (K M : KS) : Prop := ∃ O P, KAt W O kb K ∧ KAt W P mb M ∧ (∀ j, O j → B ≤ j ∧ j < W.heap.size ∧ ¬ P j) ∧ ∀ j, P j → B ≤ j ∧ j < W.heap.size
theorem Two.swap {W : World} {B kb mb : Nat} {K M : KS} (h : Two W B kb mb K M) : Two W B mb kb M K := by
  obtain ⟨O, P, h1, h2, h3, h4⟩ := h
  exact ⟨P, O, h2, h1, fun j e => ⟨(h4 j e).1, (h4 j e).2, fun e' => (h3 j e').2.2 e⟩, fun j e => ⟨(h3 j e).1, (h3 j e).2.1⟩⟩
theorem Two.below {W W' : World} {B kb mb : Nat} {K M : KS} (h : Two W B kb mb K M) (hB : Below W.heap.size W W') : Two W' B kb mb K M := by
  obtain ⟨O, P, h1, h2, h3, h4⟩ := h
  exact ⟨O, P, h1.below hB, h2.below hB, fun j e => ⟨(h3 j e).1, Nat.lt_of_lt_of_le (h3 j e).2.1 hB.size, (h3 j e).2.2⟩, fun j e => ⟨(h4 j e).1, Nat.lt_of_lt_of_le (h4 j e).2 hB.size⟩⟩
/-- Both, and what a step of the one, and then of the other, leaves. -/
theorem Two.both {wr : World} {B kb mb : Nat} {K M : KS} (h : Two wr B kb mb K M) (hB : B ≤ wr.heap.size) :
    ∃ O P, KAt wr O kb K ∧ KAt wr P mb M ∧ (∀ j, O j → B ≤ j ∧ j < wr.heap.size) ∧ (∀ j, P j → B ≤ j ∧ j < wr.heap.size) ∧
      ∀ wb, Below wr.heap.size wr wb → ∀ K' w6, KStep wb O kb K' w6 → KAt w6 P mb M ∧ ∀ M' w7, KStep w6 P mb M' w7 → Two w7 B kb mb K' M' ∧ Below B wr w7 := by
  obtain ⟨O, P, h1, h2, h3, h4⟩ := h
  refine ⟨O, P, h1, h2, fun j e => ⟨(h3 j e).1, (h3 j e).2.1⟩, h4, fun wb hb K' w6 hS => ?_⟩
  obtain ⟨O', g1, g2, g3⟩ := hS
  have hsb := hb.size
  have hm : KAt w6 P mb M := (h2.below hb).keep (fun j e hl => g3.block j hl (fun e' => (h3 j e').2.2 e)) g3.size
  refine ⟨hm, fun M' w7 hS7 => ?_⟩
  obtain ⟨P', f1, f2, f3⟩ := hS7
  have hz6 := g3.size
  have hz7 := f3.size
  have g1' := g1.trim
  refine ⟨⟨fun k => O' k ∧ k < w6.heap.size, fun k => P' k ∧ k < w7.heap.size, g1'.keep (fun j e hl => f3.block j hl (fun e' => ?_)) hz7, f1.trim, fun j e => ⟨?_, Nat.lt_of_lt_of_le e.2 hz7, fun e' => ?_⟩, fun j e => ⟨?_, e.2⟩⟩, (hb.mono hB).trans ((g3.below (fun j e => (h3 j e).1) (Nat.le_trans hB hsb)).trans (f3.below (fun j e => (h4 j e).1) (Nat.le_trans hB (Nat.le_trans hsb hz6))))⟩
  · rcases g2 j e.1 with e1 | e1
    · exact (h3 j e1).2.2 e'
    · have := (h4 j e').2; omega
  · rcases g2 j e.1 with e1 | e1
    · exact (h3 j e1).1
    · omega
  · rcases f2 j e'.1 with e2 | e2
    · rcases g2 j e.1 with e1 | e1
      · exact (h3 j e1).2.2 e2
      · have := (h4 j e2).2; omega
    · have := e.2; omega
  · rcases f2 j e.1 with e2 | e2
    · exact (h4 j e2).1
    · omega
theorem six_cells (w : World) (a b c d e f : Value) (t : TypeId) : (w.alloc (Obj.cells #[a, b, c, d, e, f] t)).cell? ⟨w.heap.size, 1, none⟩ = some b ∧ (w.alloc (Obj.cells #[a, b, c, d, e, f] t)).cell? ⟨w.heap.size, 2, none⟩ = some c ∧ (w.alloc (Obj.cells #[a, b, c, d, e, f] t)).cell? ⟨w.heap.size, 3, none⟩ = some d ∧ (w.alloc (Obj.cells #[a, b, c, d, e, f] t)).cell? ⟨w.heap.size, 4, none⟩ = some e ∧ (w.alloc (Obj.cells #[a, b, c, d, e, f] t)).cell? ⟨w.heap.size, 5, none⟩ = some f := by
  refine ⟨?_, ?_, ?_, ?_, ?_⟩ <;> (simp only [World.cell?, heap_alloc_new]; rfl)
theorem cell_keep {O : Nat → Prop} {w w' : World} {g j : Nat} {v : Value} (hT : Turned O w w') (h : w.cell? ⟨g, j, none⟩ = some v) (hO : ¬ O g) : w'.cell? ⟨g, j, none⟩ = some v :=
  (World.cell?_of_block (w := w) (a := ⟨g, j, none⟩) (hT.block g (World.block_lt_of_cell? w _ h) hO)).trans h
theorem KStep.turned {w w' : World} {O : Nat → Prop} {kb : Nat} {K : KS} (h : KStep w O kb K w') : Turned O w w' := by
  obtain ⟨_, _, _, h3⟩ := h
  exact h3
theorem KAt.files_ok {w : World} {O : Nat → Prop} {kb : Nat} {K : KS} (h : KAt w O kb K) : K.files.length ≤ 256 ∧ ∀ j (hj : j < K.files.length), K.files[j].2.length ≤ 1048576 ∧ K.files[j].1.size ≤ maxLen := by
  obtain ⟨ρ, I, h1, _, _⟩ := h
  refine ⟨?_, fun j hj => ?_⟩
  · have := h1.ok.named
    have h4 : K.files.length ≤ K.nm.length := by unfold KS.files KS.fidx; simpa using List.length_filter_le _ _
    omega
  · obtain ⟨i, L, hm, hi, ho, _, hf⟩ := file_at h1.ok (k := j) (by simpa [fnames, KS.files] using hj)
    rw [(List.getElem?_eq_some_iff.1 hf).2]
    have := h1.comp (.obj i) hi
    rw [← KS.obOf_eq hi, ho] at this
    exact ⟨this.1, by have := name_few (h1.nm.ok i hm); unfold maxLen; show (K.nameOf i).size ≤ _; omega⟩
theorem kle_seek (K : KS) (d o h : Int) : KLe K (K.seek d o h).2.2 := by
  unfold KS.seek
  repeat' split
  all_goals first
    | exact KLe.refl K
    | exact ⟨Nat.le_add_right K.next 2, Nat.le_add_right K.reads 1, Nat.le_add_right K.writes 1⟩
theorem bys_none {W W' : World} {v : Value} {l : List UInt8} (h : Bys W v l) (h0 : ¬ 0 < l.length) : Bys W' v l := by
  rcases h with h | h | ⟨_, _, _, _, h, _⟩
  · exact .inl h
  · exact .inr (.inl h)
  · exact absurd h h0
theorem read_few {w : World} {O : Nat → Prop} {kb : Nat} {K : KS} (h : KAt w O kb K) (d n : Int) : (K.read d n).1.length ≤ 1048576 := by
  obtain ⟨ρ, I, h1, _, _⟩ := h
  have ok : ∀ x, K.find d = some x → (K.tho x).ok := fun x hx => by
    have hi := h1.ok.th x (KS.find_some hx).1
    have := (h1.comp (.obj x.th) hi).ok
    rw [KS.tho_eq hi]
    exact this
  unfold KS.read
  split
  · simp
  · rename_i x hx
    have hk := ok x hx
    split
    · simp
    split
    · simp
    split
    · simp
    split
    · simp
    split
    · revert hk
      cases K.tho x with
      | file b => intro hk; simp only [piece_len]; have : b.length ≤ 1048576 := hk; omega
      | term ls scr =>
        intro hk
        simp only [rdH]
        split
        · cases ls with
          | nil => simp [headL]
          | cons l r =>
            have := hk.2.1 0 (by simp)
            simp only [List.getElem_cons_zero] at this
            simp only [headL, List.length_take]
            omega
        · simp
      | pipe q rd wt => intro hk; have : q.length ≤ 4096 := hk.1; simp only [rdB]; split <;> simp <;> omega
    · simp
end Go.Proofs.YtdjddcmpffmehaaGreat

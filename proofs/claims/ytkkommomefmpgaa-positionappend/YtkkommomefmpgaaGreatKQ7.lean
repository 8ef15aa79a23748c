/- What the proof stands on, part 7: the contracts of the program's calls that it reaches. -/
import Derived.Test.YtkkommomefmpgaaGreatKQ6
/- The program's kernel: new files. -/
namespace Go.Proofs.YtkkommomefmpgaaGreat
open Go.RowKit Go.Maps

theorem more_addTh (K : KS) (t : Th) : More K (K.addTh t) t := ⟨rfl, rfl, rfl, rfl, rfl, rfl⟩
theorem addTh_nm (K : KS) (t : Th) : (K.addTh t).nm = insN (K.addTh t).nameOf K.th.length K.nm := rfl
theorem KOk.addTh {K : KS} (h : KOk K) (t : Th) (hl : K.nm.length < 256) : KOk (K.addTh t) := by
  have hlen : (K.addTh t).th.length = K.th.length + 1 := by show (K.th ++ [t]).length = _; simp
  refine ⟨h.few, ?_, fun d hd => by have := h.th d hd; omega, fun i hi => ?_, h.num, h.once, h.flags, h.pos, h.held, h.plan⟩
  · rw [addTh_nm, (insN_perm _ _ _).length_eq]; simp; omega
  · rw [addTh_nm] at hi
    rcases mem_insN.1 hi with rfl | hi
    · omega
    · have := h.nm i hi; omega
theorem KNm.addTh {K : KS} (h : KNm K) (hok : KOk K) (t : Th) (hk : t.ob.kind = 1 ∨ t.ob.kind = 2) (hn : nameOk t.name = true) (hnew : ∀ i ∈ K.nm, K.nameOf i ≠ t.name) : KNm (K.addTh t) := by
  have hM := more_addTh K t
  refine ⟨?_, fun i hi => ?_, fun i hi e => ?_, fun i hi => ?_⟩
  · rw [addTh_nm]
    refine insN_sorted ?_ fun j hj => ?_
    · refine h.sorted.imp_of_mem fun {a b} ha hb hab => ?_
      rw [hM.nameOf (hok.nm a ha), hM.nameOf (hok.nm b hb)]
      exact hab
    · rw [hM.nameOf (hok.nm j hj), hM.nameNew]
      exact hnew j hj
  · rw [addTh_nm] at hi
    rcases mem_insN.1 hi with rfl | hi
    · rw [hM.obNew]; exact hk
    · rw [hM.obOf (hok.nm i hi)]; exact h.kind i hi
  · rw [addTh_nm]
    rw [show (K.addTh t).th.length = K.th.length + 1 by show (K.th ++ [t]).length = _; simp] at hi
    by_cases e' : i = K.th.length
    · exact mem_insN.2 (.inl e')
    · have hlt : i < K.th.length := by omega
      rw [hM.obOf hlt] at e
      exact mem_insN.2 (.inr (h.all i hlt e))
  · rw [addTh_nm] at hi
    rcases mem_insN.1 hi with rfl | hi
    · rw [hM.nameNew]; exact hn
    · rw [hM.nameOf (hok.nm i hi)]; exact h.ok i hi
theorem idx_addTh (K : KS) (hok : KOk K) (t : Th) (c : Int) : ((K.addTh t).nm.filter fun i => ((K.addTh t).obOf i).kind == c).Perm (if t.ob.kind == c then K.th.length :: K.nm.filter (fun i => (K.obOf i).kind == c) else K.nm.filter fun i => (K.obOf i).kind == c) := by
  have hM := more_addTh K t
  rw [addTh_nm]
  refine ((insN_perm _ _ _).filter _).trans ?_
  have e1 : K.nm.filter (fun i => ((K.addTh t).obOf i).kind == c) = K.nm.filter fun i => (K.obOf i).kind == c := List.filter_congr fun i hi => by rw [hM.obOf (hok.nm i hi)]
  rw [List.filter_cons, hM.obNew, e1]
theorem map_old {K : KS} (hok : KOk K) {K' : KS} {t : Th} (hM : More K K' t) (f : Nat → Nat) (v : Nat) (q : Nat → Bool) : (K.nm.filter q).map (fun i => (nkey (K'.nameOf i), upd f K.th.length v i)) = (K.nm.filter q).map fun i => (nkey (K.nameOf i), f i) := by
  refine List.map_congr_left fun i hi => ?_
  have hlt := hok.nm i (List.mem_filter.1 hi).1
  rw [hM.nameOf hlt, upd_other (Nat.ne_of_lt hlt)]
theorem fl_addFile (K : KS) (hok : KOk K) (I : PI) (s : ByteArray) (b : List UInt8) (p c : Nat) : ((K.addTh ⟨s, .file b⟩).fl { I with ob := upd I.ob K.th.length p, cb := upd I.cb K.th.length c }).Perm ((nkey s, p) :: K.fl I) ∧ ((K.addTh ⟨s, .file b⟩).tl { I with ob := upd I.ob K.th.length p, cb := upd I.cb K.th.length c }).Perm (K.tl I) := by
  have hM := more_addTh K ⟨s, .file b⟩
  constructor
  · refine ((idx_addTh K hok ⟨s, .file b⟩ 1).map _).trans ?_
    rw [if_pos (by rfl), List.map_cons, hM.nameNew]
    simp only [upd_same]
    rw [map_old hok hM]
    exact List.Perm.refl _
  · refine ((idx_addTh K hok ⟨s, .file b⟩ 2).map _).trans ?_
    rw [if_neg (by show ¬ (((1 : Int) == 2) = true); decide)]
    simp only
    rw [map_old hok hM]
    exact List.Perm.refl _
theorem fl_addTerm (K : KS) (hok : KOk K) (I : PI) (s : ByteArray) (ls : List (List UInt8)) (scr : List UInt8) (p c : Nat) : ((K.addTh ⟨s, .term ls scr⟩).fl { I with ob := upd I.ob K.th.length p, cb := upd I.cb K.th.length c }).Perm (K.fl I) ∧ ((K.addTh ⟨s, .term ls scr⟩).tl { I with ob := upd I.ob K.th.length p, cb := upd I.cb K.th.length c }).Perm ((nkey s, c) :: K.tl I) := by
  have hM := more_addTh K ⟨s, .term ls scr⟩
  constructor
  · refine ((idx_addTh K hok ⟨s, .term ls scr⟩ 1).map _).trans ?_
    rw [if_neg (by show ¬ (((2 : Int) == 1) = true); decide)]
    simp only
    rw [map_old hok hM]
    exact List.Perm.refl _
  · refine ((idx_addTh K hok ⟨s, .term ls scr⟩ 2).map _).trans ?_
    rw [if_pos (by rfl), List.map_cons, hM.nameNew]
    simp only [upd_same]
    rw [map_old hok hM]
    exact List.Perm.refl _
theorem name_size {s : ByteArray} (h : nameOk s = true) : s.size ≤ 64 := by
  unfold nameOk at h
  simp at h
  exact h.2.1
def Added (ρ : Nat → Option PTag) (I : PI) (K' : KS) (w : World) (n p c : Nat) (w' : World) : Prop :=
  ∃ ρ', PK w' ρ' { I with ob := upd I.ob n p, cb := upd I.cb n c } K' ∧ newTags ρ ρ' w ∧ (∀ k, k < w.heap.size → ρ' k = ρ k) ∧ Turned (Own ρ) w w'
theorem nkey_inj {a b : ByteArray} (h : nkey a = nkey b) : a = b := Go.WideShapes.bytes_inj (by simpa [nkey] using h)
theorem mem_names {K : KS} {I : PI} {s : ByteArray} (hnew : ∀ i ∈ K.nm, K.nameOf i ≠ s) : (∀ q ∈ K.fl I, q.1 ≠ nkey s) ∧ ∀ q ∈ K.tl I, q.1 ≠ nkey s := by
  constructor
  · intro q hq e
    obtain ⟨i, hi, rfl⟩ := List.mem_map.1 hq
    exact hnew i (List.mem_filter.1 hi).1 (nkey_inj e)
  · intro q hq e
    obtain ⟨i, hi, rfl⟩ := List.mem_map.1 hq
    exact hnew i (List.mem_filter.1 hi).1 (nkey_inj e)
theorem fl_len {K : KS} {I : PI} (hok : KOk K) : (K.fl I).length ≤ 256 ∧ (K.tl I).length ≤ 256 := by
  have := hok.named
  constructor
  · have := List.length_filter_le (fun i => (K.obOf i).kind == 1) K.nm
    unfold KS.fl KS.fidx; simp; omega
  · have := List.length_filter_le (fun i => (K.obOf i).kind == 2) K.nm
    unfold KS.tl KS.tidx; simp; omega
set_option maxRecDepth 100000 in
set_option maxHeartbeats 2000000 in
theorem newFile_any (ρ : Nat → Option PTag) (I : PI) (K : KS) (s : ByteArray) (v : Value) (b : List UInt8) (w : World) (h : PK w ρ I K) (hv : Bys w v b) (hb : b.length ≤ 1048576) (hs : nameOk s = true) (hnew : ∀ i ∈ K.nm, K.nameOf i ≠ s) (hl : K.nm.length < 256) :
    Calls Tryz.prog 37 #[.pointer (some ⟨I.kb, 0, none⟩), .string s, v] w fun e w' => ∃ p, e = .returned (.pointer (some ⟨p, 0, none⟩)) ∧ Added ρ I (K.addTh ⟨s, .file b⟩) w K.th.length p I.fm w' := by
  have HN := hide (po_new_file v b w hv hb)
  have HK := hide h
  clear h hv
  go_enter Tryz.func37, Tryz.ntmps37
  go_wp2_with fail
  refine HN.out.mono ?_
  rintro e w1 ⟨p, rfl, hO, hB⟩
  have hP1 := HK.out.under hB
  have c1 := hP1.cells.files
  have hfm := (hP1.comp .fmap)
  obtain ⟨w2, hrun, hm2, hmt⟩ := hfm.1.store skeyed Tryz.underlying91 (by have := (fl_len (I := I) HK.out.ok).1; unfold maxLen; omega) (key := .string s) p (string_key s (by have := name_size hs; unfold maxLen; omega)) (mem_names hnew).1
  have HA : Hid (Added ρ I (K.addTh ⟨s, .file b⟩) w K.th.length p I.fm w2) := hide (by
    have hT2 := mapTurned_turned hmt
    have hfl := fl_addFile K HK.out.ok I s b p I.fm
    have hfmlt := HK.out.lt _ _ (HK.out.comp .fmap).2
    have htm : I.tm ≠ I.fm := fun e => by have := (HK.out.comp .tmap).2; rw [e, (HK.out.comp .fmap).2] at this; cases this
    have hTw : Turned (fun k => ρ k = some .fmap ∨ ρ k = some .tmap) w w2 := (Turned.of_below hB).trans (hT2.mono fun k e => by rw [e]; exact .inl (HK.out.comp .fmap).2) (fun _ _ e => e)
    obtain ⟨ρ', a1, a2, a3⟩ := HK.out.more (more_addTh K ⟨s, .file b⟩) p I.fm (W' := w2) (O' := fun k => w.heap.size ≤ k ∧ k < w1.heap.size) (hO.keep (fun k e hlt => hT2.block k hlt (by omega)) hT2.size) (fun k e => ⟨e.1, by omega⟩) (fun ls scr e => by cases e) hTw
      (HK.out.ok.addTh _ hl) (HK.out.nm.addTh HK.out.ok _ (.inl rfl) hs hnew) (hm2.perm hfl.1.symm)
      (((hP1.comp .tmap).1.keep (hT2.block _ (hP1.lt _ _ (hP1.comp .tmap).2) htm)).perm hfl.2.symm)
    exact ⟨ρ', a1, a2, a3, hTw.mono fun k e => by
      rcases e with e | e
      · exact ⟨_, e⟩
      · exact ⟨_, e⟩⟩)
  clear hP1 hfm hm2 hmt hO
  go_wp2
  go_ret
  exact ⟨p, rfl, HA.out⟩
end Go.Proofs.YtkkommomefmpgaaGreat

/- The program's kernel: thingFor. -/
namespace Go.Proofs.YtkkommomefmpgaaGreat
open Go.RowKit Go.Maps

theorem byName_some {K : KS} {s : ByteArray} {i : Nat} (h : K.byName s = some i) : i ∈ K.nm ∧ K.nameOf i = s := by
  unfold KS.byName at h
  exact ⟨List.mem_of_find?_eq_some h, by simpa using List.find?_some h⟩
theorem byName_none {K : KS} {s : ByteArray} (h : K.byName s = none) : ∀ i ∈ K.nm, K.nameOf i ≠ s := by
  unfold KS.byName at h
  intro i hi
  simpa using List.find?_eq_none.1 h i hi
theorem KNm.inj {K : KS} (h : KNm K) {i j : Nat} (hi : i ∈ K.nm) (hj : j ∈ K.nm) (e : K.nameOf i = K.nameOf j) : i = j := by
  obtain ⟨a, ha, rfl⟩ := List.getElem_of_mem hi
  obtain ⟨b, hb, rfl⟩ := List.getElem_of_mem hj
  have hp := List.pairwise_iff_getElem.1 h.sorted
  rcases Nat.lt_trichotomy a b with hab | hab | hab
  · exact absurd e (nlt_ne (hp a b ha hb hab))
  · subst hab; rfl
  · exact absurd e.symm (nlt_ne (hp b a hb ha hab))
theorem zero_file (w : World) : (zeroValue 97).run Tryz.prog w = .ok (.pointer none) w := by kernel_rfl
theorem zero_cons (w : World) : (zeroValue 104).run Tryz.prog w = .ok (.pointer none) w := by kernel_rfl
theorem look_file {w : World} {ρ : Nat → Option PTag} {I : PI} {K : KS} (h : PK w ρ I K) {s : ByteArray} (hs : s.size ≤ maxLen) {i : Nat} (hi : i ∈ K.nm) (hn : K.nameOf i = s) (hk : (K.obOf i).kind = 1) (c : Bool) :
    (Instr.lookup 91 (.map (some I.fm)) (.string s) c).run Tryz.prog w = .ok (if c then .tuple #[.pointer (some ⟨I.ob i, 0, none⟩), .bool true] else .pointer (some ⟨I.ob i, 0, none⟩)) w :=
  (h.comp .fmap).1.hit skeyed Tryz.underlying91 (zero_file w) (string_key s hs) (g := I.ob i) (List.mem_map.2 ⟨i, List.mem_filter.2 ⟨hi, by simp [hk]⟩, by rw [hn]⟩) c
theorem look_term {w : World} {ρ : Nat → Option PTag} {I : PI} {K : KS} (h : PK w ρ I K) {s : ByteArray} (hs : s.size ≤ maxLen) {i : Nat} (hi : i ∈ K.nm) (hn : K.nameOf i = s) (hk : (K.obOf i).kind = 2) (c : Bool) :
    (Instr.lookup 92 (.map (some I.tm)) (.string s) c).run Tryz.prog w = .ok (if c then .tuple #[.pointer (some ⟨I.cb i, 0, none⟩), .bool true] else .pointer (some ⟨I.cb i, 0, none⟩)) w :=
  (h.comp .tmap).1.hit skeyed Tryz.underlying92 (zero_cons w) (string_key s hs) (g := I.cb i) (List.mem_map.2 ⟨i, List.mem_filter.2 ⟨hi, by simp [hk]⟩, by rw [hn]⟩) c
theorem miss_file {w : World} {ρ : Nat → Option PTag} {I : PI} {K : KS} (h : PK w ρ I K) {s : ByteArray} (hs : s.size ≤ maxLen) (hn : ∀ i ∈ K.nm, (K.obOf i).kind = 1 → K.nameOf i ≠ s) (c : Bool) :
    (Instr.lookup 91 (.map (some I.fm)) (.string s) c).run Tryz.prog w = .ok (if c then .tuple #[.pointer none, .bool false] else .pointer none) w :=
  (h.comp .fmap).1.miss skeyed Tryz.underlying91 (zero_file w) (string_key s hs) (fun p hp e => by
    obtain ⟨i, hi, rfl⟩ := List.mem_map.1 hp
    have := List.mem_filter.1 hi
    exact hn i this.1 (by simpa using this.2) (nkey_inj e)) c
theorem miss_term {w : World} {ρ : Nat → Option PTag} {I : PI} {K : KS} (h : PK w ρ I K) {s : ByteArray} (hs : s.size ≤ maxLen) (hn : ∀ i ∈ K.nm, (K.obOf i).kind = 2 → K.nameOf i ≠ s) (c : Bool) :
    (Instr.lookup 92 (.map (some I.tm)) (.string s) c).run Tryz.prog w = .ok (if c then .tuple #[.pointer none, .bool false] else .pointer none) w :=
  (h.comp .tmap).1.miss skeyed Tryz.underlying92 (zero_cons w) (string_key s hs) (fun p hp e => by
    obtain ⟨i, hi, rfl⟩ := List.mem_map.1 hp
    have := List.mem_filter.1 hi
    exact hn i this.1 (by simpa using this.2) (nkey_inj e)) c
theorem split_len (f : Nat → Int) : ∀ l : List Nat, (∀ i ∈ l, f i = 1 ∨ f i = 2) → (l.filter fun i => f i == 1).length + (l.filter fun i => f i == 2).length = l.length
  | [], _ => rfl
  | a :: r, h => by
    have ih := split_len f r fun i hi => h i (by simp [hi])
    rcases h a (by simp) with e | e
    · rw [List.filter_cons_of_pos (by simp [e]), List.filter_cons_of_neg (by simp [e])]; simp; omega
    · rw [List.filter_cons_of_neg (by simp [e]), List.filter_cons_of_pos (by simp [e])]; simp; omega
theorem names_len {K : KS} (I : PI) (h : KNm K) : (K.fl I).length + (K.tl I).length = K.nm.length := by
  have := split_len (fun i => (K.obOf i).kind) K.nm h.kind
  unfold KS.fl KS.tl KS.fidx KS.tidx
  simpa using this
structure Fits (w : World) (ρ : Nat → Option PTag) (I : PI) (K : KS) (i : Nat) (flags : Int) (tv : Value) (xb : Nat) : Prop where
  lt : i < K.th.length
  file : ∀ b, K.obOf i = .file b → tv = .iface 261 (.pointer (some ⟨xb, 0, none⟩)) ∧ OFc w xb (I.ob i) 0 (bit flags 4) ∧ ρ xb = none
  term : ∀ ls scr, K.obOf i = .term ls scr → tv = .iface 104 (.pointer (some ⟨I.cb i, 0, none⟩))
  pipe : ∀ q rd wt, K.obOf i = .pipe q rd wt → tv = .iface 271 (.agg #[.pointer (some ⟨I.ob i, 0, none⟩)])
def TFor (ρ : Nat → Option PTag) (I : PI) (w : World) (K' : KS) (i : Nat) (flags : Int) (e : Ending) (w' : World) : Prop :=
  ∃ tT tu xb ρ' I', e = .returned (.tuple #[.iface tT tu, .int .i64 0]) ∧ PK w' ρ' I' K' ∧ I'.kb = I.kb ∧ I'.last = I.last ∧ newTags ρ ρ' w ∧ Turned (Own ρ) w w' ∧ Fits w' ρ' I' K' i flags (.iface tT tu) xb ∧ ((∃ b, K'.obOf i = .file b) → w.heap.size ≤ xb)
theorem TFor.term {ρ : Nat → Option PTag} {I : PI} {w : World} {K : KS} {i : Nat} {flags : Int} {ls : List (List UInt8)} {scr : List UInt8} (h : PK w ρ I K) (hi : i < K.th.length) (ho : K.obOf i = .term ls scr) : TFor ρ I w (K.cut i flags) i flags (.returned (.tuple #[.iface 104 (.pointer (some ⟨I.cb i, 0, none⟩)), .int .i64 0])) w := by
  have : K.cut i flags = K := by unfold KS.cut; rw [ho]; split <;> rfl
  rw [this]
  exact ⟨_, _, 0, ρ, I, rfl, h, rfl, rfl, newTags.refl _ _, Turned.refl _ _, ⟨hi, fun b e => (by rw [ho] at e; cases e), fun _ _ _ => rfl, fun q rd wt e => (by rw [ho] at e; cases e)⟩, fun ⟨b, e⟩ => (by rw [ho] at e; cases e)⟩
theorem TFor.file {ρ ρ' : Nat → Option PTag} {I I' : PI} {w w1 : World} {K' : KS} {i : Nat} {flags : Int} {b : List UInt8} (h : PK w1 ρ' I' K') (hk : I'.kb = I.kb) (hl : I'.last = I.last) (hn : newTags ρ ρ' w) (hT : Turned (Own ρ) w w1) (hi : i < K'.th.length) (ho : K'.obOf i = .file b) {w2 : World}
    (hw : w2 = w1.alloc (Obj.cells #[.pointer (some ⟨I'.ob i, 0, none⟩), .int .i64 0, .bool (bit flags 4)] 265)) :
    TFor ρ I w K' i flags (.returned (.tuple #[.iface 261 (.pointer (some ⟨w1.heap.size, 0, none⟩)), .int .i64 0])) w2 := by
  subst hw
  have hB := recv_below w1 (Obj.cells #[.pointer (some ⟨I'.ob i, 0, none⟩), .int .i64 0, .bool (bit flags 4)] 265)
  refine ⟨_, _, w1.heap.size, ρ', I', rfl, h.under hB, hk, hl, hn, hT.trans (Turned.of_below (S := Own ρ) hB) (fun _ _ e => e), ⟨hi, fun b' _ => ⟨rfl, heap_alloc_new _ _, ?_⟩, fun ls scr e => (by rw [ho] at e; cases e), fun q rd wt e => (by rw [ho] at e; cases e)⟩, fun _ => hT.size⟩
  cases hr : ρ' w1.heap.size with
  | none => rfl
  | some t => have := h.lt _ _ hr; omega
end Go.Proofs.YtkkommomefmpgaaGreat

/- The program's kernel: thingFor, walked. -/
namespace Go.Proofs.YtkkommomefmpgaaGreat
open Go.RowKit Go.Maps

def TNo (w : World) (E : Int) (e : Ending) (w' : World) : Prop := ∃ v, e = .returned (.tuple #[v, .int .i64 E]) ∧ Below w.heap.size w w'
set_option maxRecDepth 100000 in
set_option maxHeartbeats 2000000 in
theorem for_exist (ρ : Nat → Option PTag) (I : PI) (K : KS) (s : ByteArray) (flags : Int) (i : Nat) (w : World) (h : PK w ρ I K) (hs : s.size ≤ maxLen) (hN : K.byName s = some i) (hx : fbit flags 32 ≠ 0) :
    Calls Tryz.prog 134 #[.pointer (some ⟨I.kb, 0, none⟩), .string s, .int .i64 flags] w (TNo w 63) := by
  obtain ⟨hi, hn⟩ := byName_some hN
  have c1 := h.cells.files
  have c2 := h.cells.terms
  have x1 : (fbit flags 32 == 0) = false := by simpa using hx
  have x2 : (fbit flags 32 != 0) = true := by simpa using hx
  rcases h.nm.kind i hi with hk | hk
  · have l1 := look_file h hs hi hn hk true
    have l2 := miss_term h hs (fun j hj hkj e => by have := h.nm.inj hj hi (e.trans hn.symm); rw [this, hk] at hkj; cases hkj) true
    simp only [if_true] at l1 l2
    clear h
    go_enter Tryz.func134, Tryz.ntmps134
    go_wp2
    go_ret2
    exact ⟨_, rfl, Below.refl _ _⟩
  · have l1 := look_term h hs hi hn hk true
    have l2 := miss_file h hs (fun j hj hkj e => by have := h.nm.inj hj hi (e.trans hn.symm); rw [this, hk] at hkj; cases hkj) true
    simp only [if_true] at l1 l2
    clear h
    go_enter Tryz.func134, Tryz.ntmps134
    go_wp2
    go_ret2
    exact ⟨_, rfl, Below.refl _ _⟩
set_option maxRecDepth 100000 in
set_option maxHeartbeats 2000000 in
theorem for_none (ρ : Nat → Option PTag) (I : PI) (K : KS) (s : ByteArray) (flags : Int) (w : World) (h : PK w ρ I K) (hs : s.size ≤ maxLen) (hN : K.byName s = none) (hx : fbit flags 8 = 0) :
    Calls Tryz.prog 134 #[.pointer (some ⟨I.kb, 0, none⟩), .string s, .int .i64 flags] w (TNo w 62) := by
  have hn := byName_none hN
  have c1 := h.cells.files
  have c2 := h.cells.terms
  have x1 : (fbit flags 8 == 0) = true := by simpa using hx
  have l1 := miss_file h hs (fun j hj _ => hn j hj) true
  have l2 := miss_term h hs (fun j hj _ => hn j hj) true
  simp only [if_true] at l1 l2
  clear h
  go_enter Tryz.func134, Tryz.ntmps134
  go_wp2
  go_ret2
  exact ⟨_, rfl, Below.refl _ _⟩
set_option maxRecDepth 100000 in
set_option maxHeartbeats 2000000 in
theorem for_full (ρ : Nat → Option PTag) (I : PI) (K : KS) (s : ByteArray) (flags : Int) (w : World) (h : PK w ρ I K) (hs : s.size ≤ maxLen) (hN : K.byName s = none) (hx : fbit flags 8 ≠ 0) (hl : 256 ≤ K.nm.length) :
    Calls Tryz.prog 134 #[.pointer (some ⟨I.kb, 0, none⟩), .string s, .int .i64 flags] w (TNo w 3) := by
  have hn := byName_none hN
  have c1 := h.cells.files
  have c2 := h.cells.terms
  have x1 : (fbit flags 8 == 0) = false := by simpa using hx
  have x2 : ¬ fbit flags 8 = 0 := hx
  have l1 := miss_file h hs (fun j hj _ => hn j hj) true
  have l2 := miss_term h hs (fun j hj _ => hn j hj) true
  simp only [if_true] at l1 l2
  have s1 := (PMap.keep (W' := w.drew) (h.comp .fmap).1 rfl).len Tryz.underlying91
  have s2 := (PMap.keep (W' := w.drew) (h.comp .tmap).1 rfl).len Tryz.underlying92
  have hsum := names_len I h.nm
  have hfl := fl_len (I := I) h.ok
  generalize (K.fl I).length = A at *
  generalize (K.tl I).length = B at *
  have y1 : (256 : Int) ≤ (A : Int) + (B : Int) := by omega
  clear h hsum
  go_enter Tryz.func134, Tryz.ntmps134
  go_wp2_with fail
  go_region
  go_wp2
  go_ret2
  exact ⟨_, rfl, (Below.refl _ _).drew⟩
set_option maxRecDepth 100000 in
set_option maxHeartbeats 2000000 in
theorem for_term (ρ : Nat → Option PTag) (I : PI) (K : KS) (s : ByteArray) (flags : Int) (i : Nat) (ls : List (List UInt8)) (scr : List UInt8) (w : World) (h : PK w ρ I K) (hs : s.size ≤ maxLen) (hN : K.byName s = some i) (hx : fbit flags 32 = 0) (ho : K.obOf i = .term ls scr) :
    Calls Tryz.prog 134 #[.pointer (some ⟨I.kb, 0, none⟩), .string s, .int .i64 flags] w (TFor ρ I w (K.cut i flags) i flags) := by
  obtain ⟨hi, hn⟩ := byName_some hN
  have c1 := h.cells.files
  have c2 := h.cells.terms
  have x1 : (fbit flags 32 == 0) = true := by simpa using hx
  have x2 : (fbit flags 32 != 0) = false := by simpa using hx
  have hk : (K.obOf i).kind = 2 := by rw [ho]; rfl
  have l1 := look_term h hs hi hn hk true
  have l2 := miss_file h hs (fun j hj hkj e => by have := h.nm.inj hj hi (e.trans hn.symm); rw [this, hk] at hkj; cases hkj) true
  simp only [if_true] at l1 l2
  have HR := hide (TFor.term (flags := flags) h (h.ok.nm i hi) ho)
  clear h
  go_enter Tryz.func134, Tryz.ntmps134
  go_wp2
  go_ret2
  exact HR.out
theorem trL_zero (b : List UInt8) : trL b 0 = [] := by
  unfold trL
  rw [if_neg (by decide)]
  simp [trunc, grow]
theorem cut_no {K : KS} {i : Nat} {flags : Int} (h : fbit flags 16 = 0) : K.cut i flags = K := by unfold KS.cut; rw [bit_no h]; rfl
theorem cut_yes {K : KS} {i : Nat} {flags : Int} {b : List UInt8} (h : fbit flags 16 ≠ 0) (ho : K.obOf i = .file b) : K.cut i flags = K.setOb i (.file []) := by unfold KS.cut; rw [bit_yes h, ho]; rfl
set_option maxRecDepth 100000 in
set_option maxHeartbeats 2000000 in
theorem for_file (ρ : Nat → Option PTag) (I : PI) (K : KS) (s : ByteArray) (flags : Int) (i : Nat) (b : List UInt8) (w : World) (h : PK w ρ I K) (hs : s.size ≤ maxLen) (hN : K.byName s = some i) (hx : fbit flags 32 = 0) (ho : K.obOf i = .file b) :
    Calls Tryz.prog 134 #[.pointer (some ⟨I.kb, 0, none⟩), .string s, .int .i64 flags] w (TFor ρ I w (K.cut i flags) i flags) := by
  obtain ⟨hi, hn⟩ := byName_some hN
  have c1 := h.cells.files
  have c2 := h.cells.terms
  have x1 : (fbit flags 32 == 0) = true := by simpa using hx
  have x2 : (fbit flags 32 != 0) = false := by simpa using hx
  have hk : (K.obOf i).kind = 1 := by rw [ho]; rfl
  have l1 := look_file h hs hi hn hk true
  have l2 := miss_term h hs (fun j hj hkj e => by have := h.nm.inj hj hi (e.trans hn.symm); rw [this, hk] at hkj; cases hkj) true
  simp only [if_true] at l1 l2
  have hlt := h.ok.nm i hi
  by_cases ht : fbit flags 16 = 0
  · rw [cut_no ht]
    have t1 : (fbit flags 16 == 0) = true := by simpa using ht
    have t2 : (fbit flags 16 != 0) = false := by simpa using ht
    have HR := hide fun w2 => TFor.file (I := I) (flags := flags) h rfl rfl (newTags.refl ρ w) (Turned.refl (Own ρ) w) hlt ho (w2 := w2)
    clear h
    go_enter Tryz.func134, Tryz.ntmps134
    go_wp2
    go_ret2
    exact HR.out _ rfl
  · rw [cut_yes ht ho]
    have t1 : (fbit flags 16 == 0) = false := by simpa using ht
    have t2 : (fbit flags 16 != 0) = true := by simpa using ht
    have hO := h.comp (.obj i) hlt
    rw [← KS.obOf_eq hlt, ho] at hO
    have HT := hide (po_ftrunc _ (I.ob i) b 0 w hO (by rw [trL_zero]; exact Nat.zero_le _))
    rw [trL_zero] at HT
    have HS : Hid (∀ w1, PStep w (fun k => ρ k = some (.obj i)) (I.ob i) (.file []) w1 → ∃ ρ', PK w1 ρ' I (K.setOb i (.file [])) ∧ newTags ρ ρ' w) := hide fun w1 hS => by
      obtain ⟨O', h1, h2, h3⟩ := hS
      obtain ⟨ρ', g1, g2, _⟩ := h.setOb hlt (ob' := .file []) (by rw [← KS.obOf_eq hlt, ho]; rfl) (h3.mono fun k e => Or.inl e) h1 h2 (fun ls scr e => by cases e)
      exact ⟨ρ', g1, g2⟩
    clear h
    go_enter Tryz.func134, Tryz.ntmps134
    go_wp2_with fail
    refine HT.out.mono ?_
    rintro e w1 ⟨rfl, hS⟩
    obtain ⟨ρ', h1, h2⟩ := HS.out w1 hS
    have hTu : Turned (Own ρ) w w1 := by obtain ⟨O', a1, a2, a3⟩ := hS; exact a3.mono fun k e => ⟨_, e⟩
    have HR := hide fun w2 => TFor.file (I := I) (flags := flags) h1 rfl rfl h2 hTu (by rw [setOb_len]; exact hlt) (KS.obOf_setOb_same (.file []) hlt) (w2 := w2)
    clear h1 h2 hS hTu
    go_wp2
    go_ret2
    exact HR.out _ rfl
end Go.Proofs.YtkkommomefmpgaaGreat

/- The program's kernel: thingFor, where a file is made. -/
namespace Go.Proofs.YtkkommomefmpgaaGreat
open Go.RowKit Go.Maps

theorem setOb_id {K : KS} {i : Nat} {ob : Ob} (hi : i < K.th.length) (h : K.obOf i = ob) : K.setOb i ob = K := by
  unfold KS.setOb
  have : K.th.modify i (fun t => { t with ob := ob }) = K.th := by
    apply List.ext_getElem
    · simp
    · intro j h1 h2
      rw [List.getElem_modify]
      split
      · rename_i e
        subst e
        rw [KS.obOf_eq hi] at h
        subst h
        rfl
      · rfl
  rw [this]
theorem PK.drew {w : World} {ρ : Nat → Option PTag} {I : PI} {K : KS} (h : PK w ρ I K) : PK w.drew ρ I K := h.keep (fun _ _ _ => rfl) (Nat.le_refl _)
set_option maxRecDepth 100000 in
set_option maxHeartbeats 2000000 in
theorem for_new (ρ : Nat → Option PTag) (I : PI) (K : KS) (s : ByteArray) (flags : Int) (w : World) (h : PK w ρ I K) (hs : nameOk s = true) (hN : K.byName s = none) (hx : fbit flags 8 ≠ 0) (hl : K.nm.length < 256) :
    Calls Tryz.prog 134 #[.pointer (some ⟨I.kb, 0, none⟩), .string s, .int .i64 flags] w (TFor ρ I w (K.addTh ⟨s, .file []⟩) K.th.length flags) := by
  have hn := byName_none hN
  have hsz : s.size ≤ maxLen := by have := name_size hs; unfold maxLen; omega
  have c1 := h.cells.files
  have c2 := h.cells.terms
  have x1 : (fbit flags 8 == 0) = false := by simpa using hx
  have x2 : ¬ fbit flags 8 = 0 := hx
  have l1 := miss_file h hsz (fun j hj _ => hn j hj) true
  have l2 := miss_term h hsz (fun j hj _ => hn j hj) true
  simp only [if_true] at l1 l2
  have s1 := (PMap.keep (W' := w.drew) (h.comp .fmap).1 rfl).len Tryz.underlying91
  have s2 := (PMap.keep (W' := w.drew) (h.comp .tmap).1 rfl).len Tryz.underlying92
  have hsum := names_len I h.nm
  have hfl := fl_len (I := I) h.ok
  generalize (K.fl I).length = A at *
  generalize (K.tl I).length = B at *
  have y1 : ¬ (256 : Int) ≤ (A : Int) + (B : Int) := by omega
  have HNew := hide (newFile_any ρ I K s (.slice none 0 0) [] w.drew h.drew (.inl ⟨rfl, rfl⟩) (Nat.zero_le _) hs hn hl)
  have hM := more_addTh K ⟨s, .file []⟩
  have hlen : (K.addTh ⟨s, .file []⟩).th.length = K.th.length + 1 := by rw [hM.th]; simp
  have HM := hide (And.intro hM.obNew hlen)
  clear h hsum hM hlen
  by_cases ht : fbit flags 16 = 0
  · have t1 : (fbit flags 16 == 0) = true := by simpa using ht
    have t2 : (fbit flags 16 != 0) = false := by simpa using ht
    go_enter Tryz.func134, Tryz.ntmps134
    go_wp2_with fail
    go_region
    go_wp2_with fail
    refine HNew.out.mono ?_
    rintro e w1 ⟨p, rfl, ρ', h1, h2, h3, h4⟩
    have HR := hide fun w2 => TFor.file (w := w) (I := I) (flags := flags) h1 rfl rfl h2 ((Turned.of_below (S := Own ρ) (Below.refl _ _).drew).trans h4 (fun _ _ e => e)) (by have := HM.out.2; omega) HM.out.1 (w2 := w2)
    simp only [upd_same] at HR
    clear h1 h2 h3 h4
    go_wp2
    go_ret2
    exact HR.out _ rfl
  · have t1 : (fbit flags 16 == 0) = false := by simpa using ht
    have t2 : (fbit flags 16 != 0) = true := by simpa using ht
    go_enter Tryz.func134, Tryz.ntmps134
    go_wp2_with fail
    go_region
    go_wp2_with fail
    refine HNew.out.mono ?_
    rintro e w1 ⟨p, rfl, ρ', h1, h2, h3, h4⟩
    have hlt : K.th.length < (K.addTh ⟨s, .file []⟩).th.length := by have := HM.out.2; omega
    have hO := h1.comp (.obj K.th.length) hlt
    rw [← KS.obOf_eq hlt, HM.out.1] at hO
    simp only [upd_same] at hO
    have HT := hide (po_ftrunc _ p [] 0 w1 hO (by rw [trL_zero]; exact Nat.zero_le _))
    rw [trL_zero] at HT
    have HP1 := hide (And.intro h1 (And.intro h2 h4))
    clear h1 h2 h3 h4 hO
    go_wp2_with fail
    refine HT.out.mono ?_
    rintro e w2 ⟨rfl, O', hS1, hS2, hS3⟩
    obtain ⟨h1, h2, h4⟩ := HP1.out
    obtain ⟨ρ2, g1, g2, g3⟩ := h1.setOb hlt (ob' := .file []) (W' := w2) (O' := O') (by rw [← KS.obOf_eq hlt, HM.out.1]) (hS3.mono fun k e => Or.inl e) (by simp only [upd_same]; exact hS1) hS2 (fun ls scr e => by cases e)
    rw [setOb_id hlt HM.out.1] at g1
    have hT2 : Turned (Own ρ) w w2 := ((Turned.of_below (S := Own ρ) (Below.refl _ _).drew).trans h4 (fun _ _ e => e)).trans hS3 (fun k hk e => by
      rcases h2 k _ e with h | h
      · exact h
      · exact absurd hk (Nat.not_lt.2 h))
    have HR := hide fun w3 => TFor.file (w := w) (I := I) (flags := flags) g1 rfl rfl (fun k t e => by
      rcases g2 k t e with ⟨t', e'⟩ | e'
      · exact h2 k t' e'
      · exact .inr (Nat.le_trans h4.size e')) hT2 hlt HM.out.1 (w2 := w3)
    simp only [upd_same] at HR
    clear h1 h2 h4 g1 g2 g3 hS1 hS2 hS3 hT2
    go_wp2
    go_ret2
    exact HR.out _ rfl
end Go.Proofs.YtkkommomefmpgaaGreat

/- The program's kernel: nameMayBe, flagsMayBe. -/
namespace Go.Proofs.YtkkommomefmpgaaGreat
open Go.RowKit Go.Maps
set_option linter.unusedSimpArgs false

set_option maxRecDepth 100000 in
set_option maxHeartbeats 2000000 in
theorem flagsMayBe_any (f : Int) (w : World) :
    Calls Tryz.prog 133 #[.int .i64 f] w fun e w' => e = .returned (.bool (flagsOk f)) ∧ w' = w := by
  unfold flagsOk
  rcases (show f < 0 ∨ (¬ f < 0 ∧ 64 ≤ f) ∨ (¬ f < 0 ∧ ¬ 64 ≤ f) by omega) with e1 | ⟨e1, e2⟩ | ⟨e1, e2⟩
  · rw [show decide (0 ≤ f ∧ f ≤ 63) = false by rw [decide_eq_false_iff_not]; omega]
    go_enter Tryz.func133, Tryz.ntmps133
    go_wp2
    go_ret
    exact ⟨rfl, rfl⟩
  · rw [show decide (0 ≤ f ∧ f ≤ 63) = false by rw [decide_eq_false_iff_not]; omega]
    go_enter Tryz.func133, Tryz.ntmps133
    go_wp2
    go_ret
    exact ⟨rfl, rfl⟩
  · rw [show decide (0 ≤ f ∧ f ≤ 63) = true by rw [decide_eq_true_eq]; omega]
    simp only [Bool.true_and]
    generalize h3 : (fbit f 3 == 0) = b3
    generalize h20 : (fbit f 20 == 0) = b20
    generalize h2 : (fbit f 2 == 0) = b2
    generalize h32 : (fbit f 32 == 0) = b32
    generalize h8 : (fbit f 8 == 0) = b8
    have n20 : (fbit f 20 != 0) = !b20 := by rw [← h20]; rfl
    have n32 : (fbit f 32 != 0) = !b32 := by rw [← h32]; rfl
    cases b3
    · cases b20
      · cases b2
        · cases b32
          · cases b8
            all_goals
              simp only [Bool.not_false, Bool.not_true] at n20 n32
              go_enter Tryz.func133, Tryz.ntmps133
              go_wp2
              go_ret
              exact ⟨rfl, rfl⟩
          · simp only [Bool.not_false, Bool.not_true] at n20 n32
            go_enter Tryz.func133, Tryz.ntmps133
            go_wp2
            go_ret
            exact ⟨rfl, rfl⟩
        · simp only [Bool.not_false, Bool.not_true] at n20 n32
          go_enter Tryz.func133, Tryz.ntmps133
          go_wp2
          go_ret
          exact ⟨rfl, rfl⟩
      · cases b32
        · cases b8
          all_goals
            simp only [Bool.not_false, Bool.not_true] at n20 n32
            go_enter Tryz.func133, Tryz.ntmps133
            go_wp2
            go_ret
            exact ⟨by cases b2 <;> rfl, rfl⟩
        · simp only [Bool.not_false, Bool.not_true] at n20 n32
          go_enter Tryz.func133, Tryz.ntmps133
          go_wp2
          go_ret
          exact ⟨by cases b2 <;> rfl, rfl⟩
    · go_enter Tryz.func133, Tryz.ntmps133
      go_wp2
      go_ret
      exact ⟨rfl, rfl⟩
set_option maxRecDepth 100000 in
set_option maxHeartbeats 1000000 in
theorem nameMayBe_any (s : ByteArray) (w : World) (hs : s.size ≤ maxLen) :
    Calls Tryz.prog 129 #[.string s] w fun e w' => e = .returned (.bool (nameOk s)) ∧ w' = w := by
  unfold maxLen at hs
  rcases (show s.size = 0 ∨ (0 < s.size ∧ 64 < s.size) ∨ (0 < s.size ∧ s.size ≤ 64) by omega) with h0 | ⟨h0, h1⟩ | ⟨h0, h1⟩
  · have d0 : (s.size : Int) < 1 := by omega
    have hE : nameOk s = false := by unfold nameOk; rw [show decide (0 < s.size) = false by rw [decide_eq_false_iff_not]; omega]; rfl
    rw [hE]
    clear hE
    go_enter Tryz.func129, Tryz.ntmps129
    go_wp2
    go_ret
    exact ⟨rfl, rfl⟩
  · have d0 : ¬ (s.size : Int) < 1 := by omega
    have d1 : (64 : Int) < (s.size : Int) := by omega
    have hE : nameOk s = false := by unfold nameOk; rw [show decide (s.size ≤ 64) = false by simp; omega]; simp
    rw [hE]
    clear hE
    go_enter Tryz.func129, Tryz.ntmps129
    go_wp2
    go_ret
    exact ⟨rfl, rfl⟩
  · have d0 : ¬ (s.size : Int) < 1 := by omega
    have d1 : ¬ (64 : Int) < (s.size : Int) := by omega
    have HE : Hid (nameOk s = s.data.toList.all (fun c => decide (33 ≤ c.toNat) && decide (c.toNat ≤ 126))) := hide (by unfold nameOk; rw [show decide (0 < s.size) = true by simp; omega, show decide (s.size ≤ 64) = true by simp; omega]; rfl)
    rw [HE.out]
    obtain ⟨R, hR⟩ : ∃ R, R = s.data.toList.all (fun c => decide (33 ≤ c.toNat) && decide (c.toNat ≤ 126)) := ⟨_, rfl⟩
    rw [← hR]
    have HR := hide hR
    clear HE hR
    go_enter Tryz.func129, Tryz.ntmps129
    go_wp2
    go_loop [14] (fun i => ∃ k : Nat, k ≤ s.size ∧ i = .int .i64 k ∧ Hid (∀ j (hj : j < s.data.toList.length), j < k → (decide (33 ≤ s.data.toList[j].toNat) && decide (s.data.toList[j].toNat ≤ 126)) = true)) (fun i => s.size - (intOf i).toNat)
    case atStart => exact ⟨0, Nat.zero_le _, rfl, fun _ _ h => by omega⟩
    case round =>
      obtain ⟨k, hk, rfl, HA⟩ := hrel
      by_cases hlt : k < s.size
      · have hby : ((s[k].toNat : Nat) : Int) ≤ 255 := by have := s[k].toNat_lt; omega
        rcases (show (s[k].toNat : Int) < 33 ∨ (¬ (s[k].toNat : Int) < 33 ∧ (126 : Int) < (s[k].toNat : Int)) ∨ (¬ (s[k].toNat : Int) < 33 ∧ ¬ (126 : Int) < (s[k].toNat : Int)) by omega) with e1 | ⟨e1, e2⟩ | ⟨e1, e2⟩
        · have HF : Hid (R = false) := hide (by
            rw [HR.out, List.all_eq_false]
            exact ⟨s[k], by simp [ByteArray.getElem_eq_getElem_data], by simp; omega⟩)
          go_wp2
          go_ret
          exact ⟨by rw [HF.out]; rfl, rfl⟩
        · have HF : Hid (R = false) := hide (by
            rw [HR.out, List.all_eq_false]
            exact ⟨s[k], by simp [ByteArray.getElem_eq_getElem_data], by simp; omega⟩)
          go_wp2
          go_ret
          exact ⟨by rw [HF.out]; rfl, rfl⟩
        · go_wp2
          go_round
          case rel =>
            refine ⟨k + 1, by omega, by go_num, fun j hj hjk => ?_⟩
            rcases Nat.lt_or_ge j k with h | h
            · exact HA.out j hj h
            · obtain rfl : j = k := by omega
              have : s.data.toList[j] = s[j] := by simp [ByteArray.getElem_eq_getElem_data]
              rw [this]
              simp; omega
          case measure => simp [intOf]; omega
      · have HF : Hid (R = true) := hide (by
          rw [HR.out, List.all_eq_true]
          intro c hc
          obtain ⟨j, hj, rfl⟩ := List.getElem_of_mem hc
          have hjs : j < s.size := by simpa using hj
          exact HA.out j hj (by omega))
        go_wp2
        go_ret
        exact ⟨by rw [HF.out]; rfl, rfl⟩
end Go.Proofs.YtkkommomefmpgaaGreat

/- The program's kernel: Open. -/
namespace Go.Proofs.YtkkommomefmpgaaGreat
open Go.RowKit Go.Maps

theorem TFor.newDe {ρ ρ' : Nat → Option PTag} {I I' : PI} {w w1 w2 : World} {K' : KS} {i : Nat} {flags : Int} {tv : Value} {xb nb : Nat} (h : PK w1 ρ' I' K') (hk : I'.kb = I.kb) (hn : newTags ρ ρ' w) (hT : Turned (Own ρ) w w1) (hF : Fits w1 ρ' I' K' i flags tv xb) (hx : (∃ b, K'.obOf i = .file b) → w.heap.size ≤ xb)
    (hf : flagsOk flags = true) (hfew : K'.de.length < 256) (hD : Described w1 I' K' tv flags nb w2) : PNext ρ I w (K'.newDe i flags) w2 := by
  obtain ⟨ρ2, g1, g2, g3⟩ := h.newDe hF.lt hf hfew hD hF.file hF.term hF.pipe
  refine ⟨ρ2, _, g1, hk, fun k t e => ?_, hT.trans hD.turned (fun k hk' e => ?_)⟩
  · rcases g2 k t e with e' | e' | ⟨e1, e2⟩
    · exact hn k t e'
    · exact .inr (by rw [e']; exact Nat.le_trans hT.size hD.new)
    · exact .inr (by rw [e2]; exact hx e1)
  · have : ∃ t, ρ' k = some t := by
      rcases e with e | e
      · exact ⟨_, by rw [e]; exact (h.comp .kern).2.1⟩
      · exact ⟨_, by rw [e]; exact (h.comp .omap).2⟩
    obtain ⟨t, e'⟩ := this
    rcases hn k t e' with h' | h'
    · exact h'
    · omega
set_option maxRecDepth 100000 in
set_option maxHeartbeats 4000000 in
theorem kopen_any (ρ : Nat → Option PTag) (I : PI) (K : KS) (s : ByteArray) (flags : Int) (w : World) (h : PK w ρ I K) (hs : s.size ≤ maxLen) (hl : K.next < 9223372036854775807) :
    Calls Tryz.prog 47 #[.pointer (some ⟨I.kb, 0, none⟩), .string s, .int .i64 flags] w (PNum ρ I w (K.open s flags)) := by
  have hm := hide (kmade_any I.kb w h.cells.made)
  have c3 := h.cells.opens
  have HNm := hide (nameMayBe_any s w hs)
  have HFl := hide (flagsMayBe_any flags w)
  have sl := (h.comp .omap).1.len Tryz.underlying93
  have HX := hide fun E w' hB => PNum.refused (w' := w') h hB E
  have HNX := hide (h.comp .kern).2.2
  rw [show (K.dl I).length = K.de.length by unfold KS.dl; simp] at sl
  have hfew := h.ok.few
  cases hn : nameOk s with
  | false =>
    rw [show K.open s flags = (0, 61, K) by unfold KS.open; rw [if_pos hn]]
    rw [hn] at HNm
    clear h
    go_enter Tryz.func47, Tryz.ntmps47
    go_wp2_with fail
    refine hm.out.mono ?_
    rintro e w1 ⟨rfl, rfl⟩
    go_wp2_with fail
    refine HNm.out.mono ?_
    rintro e w1 ⟨rfl, rfl⟩
    go_wp2
    go_ret2
    exact HX.out 61 _ (Below.refl _ _)
  | true =>
    rw [hn] at HNm
    cases hf : flagsOk flags with
    | false =>
      rw [show K.open s flags = (0, 65, K) by unfold KS.open; rw [if_neg (by rw [hn]; decide), if_pos hf]]
      rw [hf] at HFl
      clear h
      go_enter Tryz.func47, Tryz.ntmps47
      go_wp2_with fail
      refine hm.out.mono ?_
      rintro e w1 ⟨rfl, rfl⟩
      go_wp2_with fail
      refine HNm.out.mono ?_
      rintro e w1 ⟨rfl, rfl⟩
      go_wp2_with fail
      refine HFl.out.mono ?_
      rintro e w1 ⟨rfl, rfl⟩
      go_wp2
      go_ret2
      exact HX.out 65 _ (Below.refl _ _)
    | true =>
      rw [hf] at HFl
      by_cases hd : 256 ≤ K.de.length
      · rw [show K.open s flags = (0, 3, K) by unfold KS.open; rw [if_neg (by rw [hn]; decide), if_neg (by rw [hf]; decide), if_pos hd]]
        have hd' : (256 : Int) ≤ (K.de.length : Int) := by omega
        clear h
        go_enter Tryz.func47, Tryz.ntmps47
        go_wp2_with fail
        refine hm.out.mono ?_
        rintro e w1 ⟨rfl, rfl⟩
        go_wp2_with fail
        refine HNm.out.mono ?_
        rintro e w1 ⟨rfl, rfl⟩
        go_wp2_with fail
        refine HFl.out.mono ?_
        rintro e w1 ⟨rfl, rfl⟩
        go_wp2
        go_ret2
        exact HX.out 3 _ (Below.refl _ _)
      · have hd' : ¬ (256 : Int) ≤ (K.de.length : Int) := by omega
        have hO : K.open s flags = match K.byName s with
            | some i => if fbit flags 32 = 0 then (K.next, 0, (K.cut i flags).newDe i flags) else (0, 63, K)
            | none => if fbit flags 8 = 0 then (0, 62, K) else if 256 ≤ K.nm.length then (0, 3, K) else (K.next, 0, (K.addTh ⟨s, .file []⟩).newDe K.th.length flags) := by
          unfold KS.open; rw [if_neg (by rw [hn]; decide), if_neg (by rw [hf]; decide), if_neg hd]
          cases K.byName s <;> rfl
        have key : (∃ E, K.open s flags = (0, E, K) ∧ E ≠ 0 ∧ Calls Tryz.prog 134 #[.pointer (some ⟨I.kb, 0, none⟩), .string s, .int .i64 flags] w (TNo w E)) ∨
            ∃ i K1, K.open s flags = ((K.next : Int), 0, K1.newDe i flags) ∧ K1.de = K.de ∧ Calls Tryz.prog 134 #[.pointer (some ⟨I.kb, 0, none⟩), .string s, .int .i64 flags] w (TFor ρ I w K1 i flags) := by
          cases hb : K.byName s with
          | some i =>
            rw [hb] at hO
            simp only at hO
            by_cases hx : fbit flags 32 = 0
            · rw [if_pos hx] at hO
              refine .inr ⟨i, K.cut i flags, hO, ?_, ?_⟩
              · unfold KS.cut; split
                · split <;> rfl
                · rfl
              · cases ho : K.obOf i with
                | file b => exact for_file ρ I K s flags i b w h hs hb hx ho
                | term ls scr => exact for_term ρ I K s flags i ls scr w h hs hb hx ho
                | pipe q rd wt =>
                  have := h.nm.kind i (byName_some hb).1
                  rw [ho] at this
                  rcases this with h | h <;> cases h
            · rw [if_neg hx] at hO
              exact .inl ⟨63, hO, by decide, for_exist ρ I K s flags i w h hs hb hx⟩
          | none =>
            rw [hb] at hO
            simp only at hO
            by_cases hx : fbit flags 8 = 0
            · rw [if_pos hx] at hO
              exact .inl ⟨62, hO, by decide, for_none ρ I K s flags w h hs hb hx⟩
            · rw [if_neg hx] at hO
              by_cases hl2 : 256 ≤ K.nm.length
              · rw [if_pos hl2] at hO
                exact .inl ⟨3, hO, by decide, for_full ρ I K s flags w h hs hb hx hl2⟩
              · rw [if_neg hl2] at hO
                exact .inr ⟨K.th.length, K.addTh ⟨s, .file []⟩, hO, rfl, for_new ρ I K s flags w h hn hb hx (by omega)⟩
        rcases key with ⟨E, hE, hne, HC⟩ | ⟨i, K1, hE, hde, HC⟩
        · rw [hE]
          have hne2 : (E == 0) = false := by simpa using hne
          have HC := hide HC
          clear h hO hE
          go_enter Tryz.func47, Tryz.ntmps47
          go_wp2_with fail
          refine hm.out.mono ?_
          rintro e w1 ⟨rfl, rfl⟩
          go_wp2_with fail
          refine HNm.out.mono ?_
          rintro e w1 ⟨rfl, rfl⟩
          go_wp2_with fail
          refine HFl.out.mono ?_
          rintro e w1 ⟨rfl, rfl⟩
          go_wp2_with fail
          refine HC.out.mono ?_
          rintro e w2 ⟨v, rfl, hB⟩
          go_wp2
          go_ret2
          exact HX.out E _ hB
        · rw [hE]
          have HC := hide HC
          have HE := hide (And.intro hf (And.intro hde hd))
          clear h hO hE HX hde
          go_enter Tryz.func47, Tryz.ntmps47
          go_wp2_with fail
          refine hm.out.mono ?_
          rintro e w1 ⟨rfl, rfl⟩
          go_wp2_with fail
          refine HNm.out.mono ?_
          rintro e w1 ⟨rfl, rfl⟩
          go_wp2_with fail
          refine HFl.out.mono ?_
          rintro e w1 ⟨rfl, rfl⟩
          go_wp2_with fail
          refine HC.out.mono ?_
          rintro e w2 ⟨tT, tu, xb, ρ', I', rfl, h1, h2, h3, h4, h5, h6, h7⟩
          have HDs := hide (describe_any ρ' I' K1 tT tu flags w2 h1 (by rw [h3]; have := HNX.out; omega))
          rw [h2, h3, show ((I.last + 1 : Nat) : Int) = (K.next : Int) by rw [HNX.out]] at HDs
          have HP := hide fun w3 nb hD => TFor.newDe (w2 := w3) (nb := nb) h1 h2 h4 h5 h6 h7 HE.out.1 (by rw [HE.out.2.1]; have := HE.out.2.2; omega) hD
          clear h1 h4 h5 h6 h7
          go_wp2_with fail
          refine HDs.out.mono ?_
          rintro e w3 ⟨rfl, nb, hD⟩
          have HQ := hide (HP.out w3 nb hD)
          clear hD HP
          go_wp2
          go_ret2
          exact ⟨rfl, HQ.out⟩
end Go.Proofs.YtkkommomefmpgaaGreat

/- The program's kernel: give. -/
namespace Go.Proofs.YtkkommomefmpgaaGreat
open Go.RowKit Go.Maps

def NSet (W : World) (b : Nat) (ns : List ByteArray) : Prop := ∃ D : DataW Unit, W.ownsMap Tryz.prog 9 unitElem b ns.length D ∧ ∀ s, Maps.has D (nkey s) = inNames s ns
theorem NSet.lt {W : World} {b : Nat} {ns : List ByteArray} (h : NSet W b ns) : b < W.heap.size := by obtain ⟨D, h1, _⟩ := h; exact h1.lt
theorem NSet.keep {W W' : World} {b : Nat} {ns : List ByteArray} (h : NSet W b ns) (hk : W'.heap[b]? = W.heap[b]?) : NSet W' b ns := by
  obtain ⟨D, ⟨es, clock, hb, F, hs, hD⟩, h2⟩ := h
  exact ⟨D, ⟨es, clock, hk.trans hb, F, hs, hD⟩, h2⟩
theorem NSet.made (w : World) : NSet (w.alloc (.map #[] 0)) w.heap.size [] := ⟨.map [], World.ownsMap_made w _ _ unitElem, fun _ => rfl⟩
theorem zero_unit (w : World) : (zeroValue 226).run Tryz.prog w = .ok (.agg #[]) w := by kernel_rfl
theorem NSet.look {W : World} {b : Nat} {ns : List ByteArray} (h : NSet W b ns) (s : ByteArray) (hs : s.size ≤ maxLen) : (Instr.lookup 117 (.map (some b)) (.string s) true).run Tryz.prog W = .ok (.tuple #[.agg #[], .bool (inNames s ns)]) W := by
  obtain ⟨D, h1, h2⟩ := h
  obtain ⟨v, ps, hrun, hv⟩ := h1.look_ok skeyed (t := 117) (e := 226) Tryz.underlying117 (zero_unit W) (zd := .agg []) (zp := []) unitElem_mk (string_key s hs)
  obtain ⟨rfl, _⟩ := unitElem_inv hv
  rw [hrun, h2 s]
theorem NSet.store {W : World} {b : Nat} {ns : List ByteArray} (h : NSet W b ns) (s : ByteArray) (hs : s.size ≤ maxLen) (hl : ns.length < maxLen) : ∃ w', (Instr.mapUpdate 117 (.map (some b)) (.string s) (.agg #[])).run Tryz.prog W = .ok () w' ∧ Hid (NSet w' b (ns ++ [s])) ∧ W.mapTurned w' b := by
  obtain ⟨D, h1, h2⟩ := h
  obtain ⟨w', hrun, ho, hT⟩ := h1.store skeyed (t := 117) (e := 226) Tryz.underlying117 hl (string_key s hs) (val := .agg #[]) (d := .agg []) (ps := []) unitElem_mk
  refine ⟨w', hrun, hide ⟨_, by simpa using ho, fun x => ?_⟩, hT⟩
  by_cases e : x = s
  · subst e
    rw [Maps.has_put_same h1.isMap (skeyed.key (string_key x hs)), eq_comm, inNames_iff]
    simp
  · rw [Maps.has_put_other (fun e' => e (nkey_inj e')), h2 x, Bool.eq_iff_iff, inNames_iff, inNames_iff]
    simp [e]
def giveE (ns : List ByteArray) (s : ByteArray) : Int := if nameOk s = false then 61 else if inNames s ns = true then 6 else 0
set_option maxRecDepth 100000 in
set_option maxHeartbeats 1000000 in
theorem give_any (b : Nat) (ns : List ByteArray) (s : ByteArray) (w : World) (h : NSet w b ns) (hs : s.size ≤ maxLen) (hl : ns.length < maxLen) :
    Calls Tryz.prog 45 #[.map (some b), .string s] w fun e w' => e = .returned (.int .i64 (giveE ns s)) ∧ (giveE ns s = 0 → NSet w' b (ns ++ [s])) ∧ Turned (fun k => k = b) w w' := by
  have HN := hide (nameMayBe_any s w hs)
  have hlook := h.look s hs
  have hB := recv_below w (Obj.cells #[] 226)
  have hlook1 := (h.keep (hB.block _ h.lt)).look s hs
  have hst := (h.keep (hB.block _ h.lt)).store s hs hl
  have hlt := h.lt
  unfold giveE
  clear h
  cases hn : nameOk s with
  | false =>
    rw [hn] at HN
    rw [if_pos rfl]
    clear hst hlook
    go_enter Tryz.func45, Tryz.ntmps45
    go_wp2_with fail
    refine HN.out.mono ?_
    rintro e w1 ⟨rfl, rfl⟩
    go_wp2
    go_ret
    exact ⟨rfl, fun e => by simp at e, Turned.refl _ _⟩
  | true =>
    rw [hn] at HN
    rw [if_neg (by decide)]
    cases hd : inNames s ns with
    | true =>
      rw [hd] at hlook hlook1
      rw [if_pos rfl]
      clear hst
      go_enter Tryz.func45, Tryz.ntmps45
      go_wp2_with fail
      refine HN.out.mono ?_
      rintro e w1 ⟨rfl, rfl⟩
      go_wp2
      go_ret
      exact ⟨rfl, fun e => by simp at e, Turned.of_below hB⟩
    | false =>
      rw [hd] at hlook hlook1
      rw [if_neg (by decide)]
      obtain ⟨w2, hr2, H2, hT2⟩ := hst
      go_enter Tryz.func45, Tryz.ntmps45
      go_wp2_with fail
      refine HN.out.mono ?_
      rintro e w1 ⟨rfl, rfl⟩
      go_wp2
      go_ret
      exact ⟨rfl, fun _ => H2.out, (Turned.of_below hB).trans (mapTurned_turned hT2) (fun _ _ e => e)⟩
end Go.Proofs.YtkkommomefmpgaaGreat

/- The program's kernel: Check. -/
namespace Go.Proofs.YtkkommomefmpgaaGreat
open Go.RowKit Go.Maps

theorem kfiles_cons (ns : List ByteArray) (n : ByteArray) (d : List UInt8) (l : List Nm) : kfiles ns ((n, d) :: l) = if giveE ns n = 0 then (if 1048576 < d.length then (5, ns) else kfiles (ns ++ [n]) l) else (giveE ns n, ns) := by
  rw [kfiles]
  unfold giveE
  by_cases h1 : nameOk n = false
  · rw [if_pos h1, if_pos h1]; rfl
  · rw [if_neg h1, if_neg h1]
    by_cases h2 : inNames n ns = true
    · rw [if_pos h2, if_pos h2]; rfl
    · rw [if_neg h2, if_neg h2, if_pos rfl]
theorem kterms_cons (ns : List ByteArray) (n : ByteArray) (d : List (List UInt8)) (l : List Tp) : kterms ns ((n, d) :: l) = if giveE ns n = 0 then (if newE d = 0 then kterms (ns ++ [n]) l else newE d) else giveE ns n := by
  rw [kterms]
  unfold giveE
  by_cases h1 : nameOk n = false
  · rw [if_pos h1, if_pos h1]; rfl
  · rw [if_neg h1, if_neg h1]
    by_cases h2 : inNames n ns = true
    · rw [if_pos h2, if_pos h2]; rfl
    · rw [if_neg h2, if_neg h2, if_pos rfl]
theorem pair_cells (w : World) (x y : Value) (t : TypeId) : (w.alloc (Obj.cells #[x, y] t)).cell? ⟨w.heap.size, 0, none⟩ = some x ∧ (w.alloc (Obj.cells #[x, y] t)).cell? ⟨w.heap.size, 1, none⟩ = some y := by
  constructor <;> (simp only [World.cell?, heap_alloc_new]; rfl)
theorem trio_cells (w : World) (x y z : Value) (t : TypeId) : (w.alloc (Obj.cells #[x, y, z] t)).cell? ⟨w.heap.size, 0, none⟩ = some x ∧ (w.alloc (Obj.cells #[x, y, z] t)).cell? ⟨w.heap.size, 1, none⟩ = some y ∧ (w.alloc (Obj.cells #[x, y, z] t)).cell? ⟨w.heap.size, 2, none⟩ = some z := by
  refine ⟨?_, ?_, ?_⟩ <;> (simp only [World.cell?, heap_alloc_new]; rfl)
set_option maxRecDepth 100000 in
set_option maxHeartbeats 8000000 in
theorem kcheck_any (a1 a2 a3 : Option Addr) (c1 c2 c3 : Nat) (fs : List Nm) (ts : List Tp) (l : List Fault) (w : World) (h1 : Nms w (.slice a1 fs.length c1) fs) (h2 : Tps w (.slice a2 ts.length c2) ts) (h3 : Flts w (.slice a3 l.length c3) l) (hs3 : l.length ≤ maxLen) (hl1 : fs.length ≤ 140737488351232) (hl2 : ts.length ≤ 140737488351232) :
    Calls Tryz.prog 11 #[.agg #[.slice a1 fs.length c1, .slice a2 ts.length c2, .slice a3 l.length c3]] w fun e w' => e = .returned (.int .i64 (checkE fs ts l)) ∧ Below w.heap.size w w' := by
  by_cases hc : 256 < fs.length + ts.length
  · rw [show checkE fs ts l = 3 by unfold checkE; rw [if_pos hc]]
    have hc' : (256 : Int) < (fs.length : Int) + (ts.length : Int) := by omega
    go_enter Tryz.func11, Tryz.ntmps11
    go_wp2
    go_ret
    exact ⟨rfl, (Below.refl _ _).alloc (Nat.le_refl _) _⟩
  · have hc' : ¬ (256 : Int) < (fs.length : Int) + (ts.length : Int) := by omega
    have HE2 : Hid ((kfiles [] fs).1 ≠ 0 → checkE fs ts l = (kfiles [] fs).1) := hide fun h' => by unfold checkE; rw [if_neg hc, if_neg h']
    have HE3 : Hid ((kfiles [] fs).1 = 0 → kterms (kfiles [] fs).2 ts ≠ 0 → checkE fs ts l = kterms (kfiles [] fs).2 ts) := hide fun h' h'' => by unfold checkE; rw [if_neg hc, if_pos h', if_neg h'']
    have HE4 : Hid ((kfiles [] fs).1 = 0 → kterms (kfiles [] fs).2 ts = 0 → checkE fs ts l = (chk l).1) := hide fun h' h'' => by unfold checkE; rw [if_neg hc, if_pos h', if_pos h'']
    generalize checkE fs ts l = E at *
    obtain ⟨KF, hK⟩ : ∃ KF, KF = kfiles [] fs := ⟨_, rfl⟩
    have HK := hide hK
    rw [← hK] at HE2 HE3 HE4
    have H1 := hide h1
    have H2 := hide h2
    have H3 := hide h3
    have hmm := @run_makeMap Tryz.prog
    have hsC := recv_below w (Obj.cells #[.slice a1 fs.length c1, .slice a2 ts.length c2, .slice a3 l.length c3] 28)
    obtain ⟨cc0, cc1, cc2⟩ := trio_cells w (.slice a1 fs.length c1) (.slice a2 ts.length c2) (.slice a3 l.length c3) 28
    have hsz0 : (w.alloc (Obj.cells #[.slice a1 fs.length c1, .slice a2 ts.length c2, .slice a3 l.length c3] 28)).heap.size = w.heap.size + 1 := by simp
    have hsM := recv_below (w.alloc (Obj.cells #[.slice a1 fs.length c1, .slice a2 ts.length c2, .slice a3 l.length c3] 28)) (.map #[] 0)
    have hNS := NSet.made (w.alloc (Obj.cells #[.slice a1 fs.length c1, .slice a2 ts.length c2, .slice a3 l.length c3] 28))
    rw [hsz0] at hNS
    have HI : Hid (NSet ((w.alloc (Obj.cells #[.slice a1 fs.length c1, .slice a2 ts.length c2, .slice a3 l.length c3] 28)).alloc (.map #[] 0)) (w.heap.size + 1) [] ∧ ((w.alloc (Obj.cells #[.slice a1 fs.length c1, .slice a2 ts.length c2, .slice a3 l.length c3] 28)).alloc (.map #[] 0)).cell? ⟨w.heap.size, 1, none⟩ = some (.slice a2 ts.length c2) ∧ ((w.alloc (Obj.cells #[.slice a1 fs.length c1, .slice a2 ts.length c2, .slice a3 l.length c3] 28)).alloc (.map #[] 0)).cell? ⟨w.heap.size, 2, none⟩ = some (.slice a3 l.length c3) ∧ Below w.heap.size w ((w.alloc (Obj.cells #[.slice a1 fs.length c1, .slice a2 ts.length c2, .slice a3 l.length c3] 28)).alloc (.map #[] 0))) :=
      hide ⟨hNS, (hsM.cell (p := ⟨w.heap.size, 1, none⟩) (size_new _ _)).trans cc1, (hsM.cell (p := ⟨w.heap.size, 2, none⟩) (size_new _ _)).trans cc2, hsC.trans (hsM.mono hsC.size)⟩
    clear h1 h2 h3 hsC cc0 cc1 cc2 hsz0 hsM hNS hK
    go_enter Tryz.func11, Tryz.ntmps11
    go_wp2
    go_loopw [26] (fun i wr => ∃ (k : Nat) (ns : List ByteArray), k ≤ fs.length ∧ i = .int .i64 k ∧ Hid (ns.length = k) ∧ Hid (NSet wr (w.heap.size + 1) ns) ∧ Hid (kfiles ns (fs.drop k) = KF) ∧ Hid (wr.cell? ⟨w.heap.size, 1, none⟩ = some (.slice a2 ts.length c2) ∧ wr.cell? ⟨w.heap.size, 2, none⟩ = some (.slice a3 l.length c3)) ∧ Below w.heap.size w wr) (fun i _ => fs.length - (intOf i).toNat)
    case atStart => exact ⟨0, [], Nat.zero_le _, rfl, hide rfl, hide HI.out.1, hide (by rw [HK.out]; rfl), hide ⟨HI.out.2.1, HI.out.2.2.1⟩, HI.out.2.2.2⟩
    case round =>
      clear HI
      obtain ⟨k, ns, hk, rfl, HNl, HO, HF, HCc, hB⟩ := hrel
      have hsz := hB.size
      by_cases hlt : k < fs.length
      · obtain ⟨b, off, va, vc, rfl, hbl, q0, q1, -, -, hnm⟩ := H1.out.at k hlt
        have hc0 := (hB.cell (p := ⟨b, off + k * 2, none⟩) hbl).trans q0
        have hc1 := (hB.cell (p := ⟨b, off + k * 2 + 1, none⟩) hbl).trans q1
        have hF := HF.out
        rw [drop_at fs k hlt] at hF
        have hk1 : (0 : Int) ≤ (k : Int) := by omega
        have hk2 : (k : Int) < (fs.length : Int) := by omega
        clear q0 q1 HF
        generalize fs[k] = p at hc0 hc1 hnm hF
        obtain ⟨nm, L⟩ := p
        simp only at hc0 hc1 hnm
        rw [kfiles_cons] at hF
        have hBa := recv_below wr (Obj.cells #[.string nm, .slice va L.length vc] 86)
        obtain ⟨ca0, ca1⟩ := pair_cells wr (.string nm) (.slice va L.length vc) 86
        have hGlt := HO.out.lt
        have HG := hide (give_any (w.heap.size + 1) ns nm _ (HO.out.keep (hBa.block _ hGlt)) hnm (by have := HNl.out; unfold maxLen; omega))
        have HT : Hid (∀ w2, Turned (fun k => k = w.heap.size + 1) (wr.alloc (Obj.cells #[.string nm, .slice va L.length vc] 86)) w2 → w2.cell? ⟨wr.heap.size, 1, none⟩ = some (.slice va L.length vc) ∧ (w2.cell? ⟨w.heap.size, 1, none⟩ = some (.slice a2 ts.length c2) ∧ w2.cell? ⟨w.heap.size, 2, none⟩ = some (.slice a3 l.length c3)) ∧ Below w.heap.size w w2) := hide (fun w2 hT2 => by
          have hlt0 : w.heap.size < wr.heap.size := by omega
          refine ⟨hT2.cell ca1 (by show ¬ wr.heap.size = _; omega), ⟨hT2.cell ((hBa.cell (p := ⟨w.heap.size, 1, none⟩) hlt0).trans HCc.out.1) (by show ¬ w.heap.size = _; omega), hT2.cell ((hBa.cell (p := ⟨w.heap.size, 2, none⟩) hlt0).trans HCc.out.2) (by show ¬ w.heap.size = _; omega)⟩, ?_⟩
          exact (hB.trans (hBa.mono hsz)).trans (hT2.below (fun k e => by omega) (by have := hBa.size; omega)))
        clear hBa
        by_cases hg : giveE ns nm = 0
        · rw [if_pos hg] at hF
          rw [hg] at HG
          by_cases n3 : 1048576 < L.length
          · rw [if_pos n3] at hF
            have HR := hide (HE2.out (by rw [← hF]; simp))
            have HK1 : Hid (KF.1 = 5) := hide (by rw [← hF])
            have d3 : (1048576 : Int) < (L.length : Int) := by omega
            clear hF
            go_wp2_with fail
            refine HG.out.mono ?_
            rintro e w2 ⟨rfl, -, hT2⟩
            obtain ⟨t1, t2, t3⟩ := HT.out w2 hT2
            go_wp2
            go_ret
            exact ⟨by rw [HR.out, HK1.out]; rfl, t3⟩
          · rw [if_neg n3] at hF
            have d3 : ¬ (1048576 : Int) < (L.length : Int) := by omega
            have HF := hide hF
            clear hF
            go_wp2_with fail
            refine HG.out.mono ?_
            rintro e w2 ⟨rfl, hN2, hT2⟩
            obtain ⟨t1, t2, t3⟩ := HT.out w2 hT2
            have HN2 := hide (hN2 (by first | rfl | trivial))
            have HC2 := hide t2
            clear hN2 hT2 t2
            go_wp2
            all_goals
              go_roundw
              case rel => exact ⟨k + 1, ns ++ [nm], by omega, by go_num, hide (by have := HNl.out; simp; omega), HN2, HF, HC2, t3⟩
              case measure => simp [intOf]; omega
        · rw [if_neg hg] at hF
          have HR := hide (HE2.out (by rw [← hF]; exact hg))
          have HK1 : Hid (KF.1 = giveE ns nm) := hide (by rw [← hF])
          generalize giveE ns nm = gE at *
          have hg2 : (gE == 0) = false := by simpa using hg
          clear hF
          go_wp2_with fail
          refine HG.out.mono ?_
          rintro e w2 ⟨rfl, -, hT2⟩
          obtain ⟨t1, t2, t3⟩ := HT.out w2 hT2
          go_wp2
          go_ret
          exact ⟨by rw [HR.out, HK1.out]; rfl, t3⟩
      · have hF := HF.out
        rw [List.drop_eq_nil_of_le (by omega), kfiles] at hF
        have HE3 := hide (HE3.out (by rw [← hF]))
        have HE4 := hide (HE4.out (by rw [← hF]))
        rw [← hF] at HE3 HE4
        obtain ⟨M, hM⟩ : ∃ M, M = kterms ns ts := ⟨_, rfl⟩
        have HM := hide hM
        have HE3 : Hid (M ≠ 0 → E = M) := hide (by rw [hM]; exact HE3.out)
        have HE4 : Hid (M = 0 → E = (chk l).1) := hide (by rw [hM]; exact HE4.out)
        have c41 := HCc.out.1
        clear hF HF HE2 HK hM
        go_wp2
        go_loopw [45] (fun i wq => ∃ (k : Nat) (ms : List ByteArray), k ≤ ts.length ∧ i = .int .i64 k ∧ Hid (ms.length = fs.length + k) ∧ Hid (NSet wq (w.heap.size + 1) ms) ∧ Hid (kterms ms (ts.drop k) = M) ∧ Hid (wq.cell? ⟨w.heap.size, 2, none⟩ = some (.slice a3 l.length c3)) ∧ Below w.heap.size w wq) (fun i _ => ts.length - (intOf i).toNat)
        case atStart => exact ⟨0, ns, Nat.zero_le _, rfl, hide (by have := HNl.out; omega), HO, hide (by rw [HM.out]; rfl), hide HCc.out.2, hB⟩
        case round =>
          rename_i hrel
          clear HO HM HNl hB hsz c41 HCc
          obtain ⟨k2, ms, hk3, rfl, HNl, HO, HF, HCc, hB⟩ := hrel
          have hsz := hB.size
          by_cases hlt2 : k2 < ts.length
          · obtain ⟨b, off, va, vc, rfl, hbl, q0, q1, hln, hnm⟩ := H2.out.at k2 hlt2
            have hc0 := (hB.cell (p := ⟨b, off + k2 * 2, none⟩) hbl).trans q0
            have hc1 := (hB.cell (p := ⟨b, off + k2 * 2 + 1, none⟩) hbl).trans q1
            have hF := HF.out
            rw [drop_at ts k2 hlt2] at hF
            have hk1 : (0 : Int) ≤ (k2 : Int) := by omega
            have hk2 : (k2 : Int) < (ts.length : Int) := by omega
            clear q0 q1 HF
            generalize ts[k2] = p at hc0 hc1 hnm hF hln
            obtain ⟨nm, ls⟩ := p
            simp only at hc0 hc1 hnm hln
            rw [kterms_cons] at hF
            have hBa := recv_below wr (Obj.cells #[.string nm, .slice va ls.length vc] 100)
            obtain ⟨ca0, ca1⟩ := pair_cells wr (.string nm) (.slice va ls.length vc) 100
            have hGlt := HO.out.lt
            have HG := hide (give_any (w.heap.size + 1) ms nm _ (HO.out.keep (hBa.block _ hGlt)) hnm (by have := HNl.out; unfold maxLen; omega))
            have HT : Hid (∀ w2, Turned (fun k => k = w.heap.size + 1) (wr.alloc (Obj.cells #[.string nm, .slice va ls.length vc] 100)) w2 → w2.cell? ⟨wr.heap.size, 1, none⟩ = some (.slice va ls.length vc) ∧ w2.cell? ⟨w.heap.size, 2, none⟩ = some (.slice a3 l.length c3) ∧ Below w.heap.size w w2) := hide (fun w2 hT2 => by
              have hlt0 : w.heap.size < wr.heap.size := by omega
              refine ⟨hT2.cell ca1 (by show ¬ wr.heap.size = _; omega), hT2.cell ((hBa.cell (p := ⟨w.heap.size, 2, none⟩) hlt0).trans HCc.out) (by show ¬ w.heap.size = _; omega), ?_⟩
              exact (hB.trans (hBa.mono hsz)).trans (hT2.below (fun k e => by omega) (by have := hBa.size; omega)))
            have HL := hide hln
            clear hBa hln
            by_cases hg : giveE ms nm = 0
            · rw [if_pos hg] at hF
              rw [hg] at HG
              by_cases n3 : newE ls = 0
              · rw [if_pos n3] at hF
                have HF := hide hF
                have HN3 := hide n3
                clear hF n3
                go_wp2_with fail
                refine HG.out.mono ?_
                rintro e w2 ⟨rfl, hN2, hT2⟩
                obtain ⟨t1, t2, t3⟩ := HT.out w2 hT2
                have HN2 := hide (hN2 (by first | rfl | trivial))
                have HC2 := hide t2
                have HTn := hide (Te_new_good (.slice va ls.length vc) ls w2 (HL.out.below t3) HN3.out)
                clear hN2 hT2 t2
                go_wp2_with fail
                refine HTn.out.mono ?_
                rintro e w3 ⟨tp, O, rfl, -, hB3⟩
                have HN3' := hide (HN2.out.keep (hB3.block _ HN2.out.lt))
                have HC3 := hide ((hB3.cell (p := ⟨w.heap.size, 2, none⟩) (World.block_lt_of_cell? w2 _ HC2.out)).trans HC2.out)
                have t4 := t3.trans (hB3.mono t3.size)
                clear hB3
                go_wp2
                all_goals
                  go_roundw
                  case rel => exact ⟨k2 + 1, ms ++ [nm], by omega, by go_num, hide (by have := HNl.out; simp; omega), HN3', HF, HC3, t4⟩
                  case measure => simp [intOf]; omega
              · rw [if_neg n3] at hF
                have HR := hide (HE3.out (by rw [← hF]; exact n3))
                have HK1 := hide hF
                have HN3 := hide n3
                clear hF
                obtain ⟨x, hx⟩ : ∃ x, x = newE ls := ⟨_, rfl⟩
                have n3' : (x == 0) = false := by rw [hx]; simpa using n3
                have n4 : ¬ x = 0 := by rw [hx]; exact n3
                have HXx := hide hx
                clear hx n3
                go_wp2_with fail
                refine HG.out.mono ?_
                rintro e w2 ⟨rfl, -, hT2⟩
                obtain ⟨t1, t2, t3⟩ := HT.out w2 hT2
                have HTn := hide (Te_new_bad (.slice va ls.length vc) ls w2 (HL.out.below t3) HN3.out)
                rw [← HXx.out] at HTn
                clear hT2 t2
                go_wp2_with fail
                refine HTn.out.mono ?_
                rintro e w3 ⟨rfl, rfl⟩
                go_wp2
                go_ret
                exact ⟨by rw [HR.out, ← HK1.out, ← HXx.out]; rfl, t3⟩
            · rw [if_neg hg] at hF
              have HR := hide (HE3.out (by rw [← hF]; exact hg))
              have HK1 := hide hF
              clear hF
              generalize giveE ms nm = gE at *
              have hg2 : (gE == 0) = false := by simpa using hg
              go_wp2_with fail
              refine HG.out.mono ?_
              rintro e w2 ⟨rfl, -, hT2⟩
              obtain ⟨t1, t2, t3⟩ := HT.out w2 hT2
              go_wp2
              go_ret
              exact ⟨by rw [HR.out, ← HK1.out]; rfl, t3⟩
          · have hF := HF.out
            rw [List.drop_eq_nil_of_le (by omega), kterms] at hF
            have HR := hide (HE4.out hF.symm)
            have c42 := HCc.out
            have HCk := hide (Fa_check_any (.slice a3 l.length c3) l wr (H3.out.below hB) hs3)
            clear hF HF
            go_wp2_with fail
            refine HCk.out.mono ?_
            rintro e w2 ⟨rfl, hB2⟩
            go_wp2
            go_ret
            exact ⟨by rw [HR.out]; rfl, hB.trans (hB2.mono hsz)⟩
end Go.Proofs.YtkkommomefmpgaaGreat

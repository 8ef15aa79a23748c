/- What the proof stands on, part 14: the contracts of the program's calls that it reaches. -/
import Derived.Test.YtanbiinomagdbaaGreatKM13
import Derived.Test.YtanbiinomagdbaaGreatRows
import Derived.Shelf.SlIter.Nil
import Derived.Shelf.SortM.Plain
import Derived.Shelf.SortM.SortNone
import Derived.Ground.GgzProg
import Derived.Ground.SlgmProg
import Derived.Test.YtanbiinomagdbaaGreatProg
import Derived.LaidEqlPtr
import Derived.Lib.Builder
import Derived.Deep.RegionHeld3
/- Contracts of Go's library on the keys of a map, sorted, at this dump, laid by the kit's own command. -/
namespace Go.Proofs
open Go.RowKit Go.Maps Go.Sort Go.Shelf
def Tryz.keys168_ren : Go.Shelf.Ren := ⟨fun | 7 => 168 | 10 => 213 | n => n, fun | 23 => 107 | 26 => 9 | 3 => 115 | 28 => 282 | 0 => 0 | 27 => 281 | 33 => 128 | 4 => 4 | n => n, fun | n => n⟩
theorem Tryz.keys168 : Go.Proofs.SlLaysZ.n7 Tryz.prog Tryz.keys168_ren := {
  mixed := by kernel_rfl
  f7 := ⟨Tryz.f168.name, by decide, Tryz.func168.trans (congrArg some (by kernel_rfl))⟩
  f10 := ⟨Tryz.f213.name, by decide, Tryz.func213.trans (congrArg some (by kernel_rfl))⟩
  t0 := Tryz.underlying0
  a0 := Tryz.isAgg0
  z0 := Tryz.sizeOf0
  v0 := Tryz.zeroValue0
  t4 := Tryz.underlying4
  a4 := Tryz.isAgg4
  z4 := Tryz.sizeOf4
  v4 := Tryz.zeroValue4
  t23 := Tryz.underlying107
  a23 := Tryz.isAgg107
  z23 := Tryz.sizeOf107
  v23 := Tryz.zeroValue107
  t26 := Tryz.underlying9
  a26 := Tryz.isAgg9
  z26 := Tryz.sizeOf9
  v26 := Tryz.zeroValue9
  t27 := Tryz.underlying281
  a27 := Tryz.isAgg281
  z27 := Tryz.sizeOf281
  v27 := Tryz.zeroValue281
  t28 := Tryz.underlying282
  a28 := Tryz.isAgg282
  z28 := Tryz.sizeOf282
  v28 := Tryz.zeroValue282
  t33 := Tryz.underlying128
  a33 := Tryz.isAgg128
  z33 := Tryz.sizeOf128
  v33 := Tryz.zeroValue128 }
def Tryz.sorted167_ren : Go.Shelf.Ren := ⟨fun | 6 => 167 | 8 => 211 | 9 => 212 | 11 => 227 | 13 => 229 | 12 => 228 | 23 => 256 | 24 => 257 | 14 => 247 | 15 => 248 | 16 => 249 | 17 => 250 | 18 => 251 | 19 => 252 | 20 => 253 | 21 => 254 | 22 => 255 | 25 => 258 | 26 => 259 | 27 => 260 | 28 => 261 | 29 => 262 | 30 => 263 | 31 => 264 | n => n, fun | 26 => 9 | 28 => 282 | 24 => 127 | 0 => 0 | 3 => 3 | 37 => 340 | 48 => 352 | 50 => 354 | 4 => 4 | 40 => 345 | 39 => 344 | 45 => 192 | 5 => 5 | 9 => 9 | 51 => 355 | 55 => 317 | 57 => 360 | 58 => 74 | 33 => 128 | n => n, fun | n => n⟩
theorem Tryz.sorted167 : Go.Proofs.SlLaysZ.n6 Tryz.prog Tryz.sorted167_ren := {
  mixed := by kernel_rfl
  f6 := ⟨Tryz.f167.name, by decide, Tryz.func167.trans (congrArg some (by kernel_rfl))⟩
  f8 := ⟨Tryz.f211.name, by decide, Tryz.func211.trans (congrArg some (by kernel_rfl))⟩
  f11 := ⟨Tryz.f227.name, by decide, Tryz.func227.trans (congrArg some (by kernel_rfl))⟩
  t0 := Tryz.underlying0
  a0 := Tryz.isAgg0
  z0 := Tryz.sizeOf0
  v0 := Tryz.zeroValue0
  t24 := Tryz.underlying127
  a24 := Tryz.isAgg127
  z24 := Tryz.sizeOf127
  v24 := Tryz.zeroValue127
  t26 := Tryz.underlying9
  a26 := Tryz.isAgg9
  z26 := Tryz.sizeOf9
  v26 := Tryz.zeroValue9
  t28 := Tryz.underlying282
  a28 := Tryz.isAgg282
  z28 := Tryz.sizeOf282
  v28 := Tryz.zeroValue282
  i26 := by kernel_rfl }
def Tryz.sort212_ren : Go.Shelf.Ren := ⟨fun | 6 => 212 | 8 => 229 | 9 => 228 | 19 => 256 | 20 => 257 | 21 => 247 | 22 => 248 | 23 => 249 | 24 => 250 | 25 => 251 | 26 => 252 | 27 => 253 | 28 => 254 | 29 => 255 | 36 => 258 | 31 => 259 | 32 => 260 | 37 => 261 | 38 => 262 | 39 => 263 | 41 => 264 | n => n, fun | 27 => 127 | 29 => 9 | 3 => 3 | 32 => 340 | 26 => 127 | 0 => 0 | 44 => 352 | 46 => 354 | 4 => 4 | 36 => 345 | 35 => 344 | 41 => 192 | 5 => 5 | 9 => 9 | 53 => 355 | 57 => 317 | 63 => 360 | 64 => 74 | n => n, fun | n => n⟩
theorem Tryz.sort212 : Go.Proofs.SlLaysM.n6 Tryz.prog Tryz.sort212_ren := {
  mixed := by kernel_rfl
  f6 := ⟨Tryz.f212.name, by decide, Tryz.func212.trans (congrArg some (by kernel_rfl))⟩
  f8 := Tryz.func229.trans (congrArg some (by kernel_rfl))
  f9 := ⟨Tryz.f228.name, by decide, Tryz.func228.trans (congrArg some (by kernel_rfl))⟩
  f19 := Tryz.func256.trans (congrArg some (by kernel_rfl))
  f20 := Tryz.func257.trans (congrArg some (by kernel_rfl))
  f21 := ⟨Tryz.f247.name, by decide, Tryz.func247.trans (congrArg some (by kernel_rfl))⟩
  f22 := ⟨Tryz.f248.name, by decide, Tryz.func248.trans (congrArg some (by kernel_rfl))⟩
  f23 := ⟨Tryz.f249.name, by decide, Tryz.func249.trans (congrArg some (by kernel_rfl))⟩
  f24 := ⟨Tryz.f250.name, by decide, Tryz.func250.trans (congrArg some (by kernel_rfl))⟩
  f25 := ⟨Tryz.f251.name, by decide, Tryz.func251.trans (congrArg some (by kernel_rfl))⟩
  f26 := ⟨Tryz.f252.name, by decide, Tryz.func252.trans (congrArg some (by kernel_rfl))⟩
  f27 := ⟨Tryz.f253.name, by decide, Tryz.func253.trans (congrArg some (by kernel_rfl))⟩
  f28 := ⟨Tryz.f254.name, by decide, Tryz.func254.trans (congrArg some (by kernel_rfl))⟩
  f29 := ⟨Tryz.f255.name, by decide, Tryz.func255.trans (congrArg some (by kernel_rfl))⟩
  f31 := Tryz.func259.trans (congrArg some (by kernel_rfl))
  f32 := Tryz.func260.trans (congrArg some (by kernel_rfl))
  f36 := ⟨Tryz.f258.name, by decide, Tryz.func258.trans (congrArg some (by kernel_rfl))⟩
  f37 := ⟨Tryz.f261.name, by decide, Tryz.func261.trans (congrArg some (by kernel_rfl))⟩
  f38 := ⟨Tryz.f262.name, by decide, Tryz.func262.trans (congrArg some (by kernel_rfl))⟩
  f39 := ⟨Tryz.f263.name, by decide, Tryz.func263.trans (congrArg some (by kernel_rfl))⟩
  f41 := ⟨Tryz.f264.name, by decide, Tryz.func264.trans (congrArg some (by kernel_rfl))⟩
  t0 := Tryz.underlying0
  a0 := Tryz.isAgg0
  z0 := Tryz.sizeOf0
  v0 := Tryz.zeroValue0
  t3 := Tryz.underlying3
  a3 := Tryz.isAgg3
  z3 := Tryz.sizeOf3
  v3 := Tryz.zeroValue3
  t4 := Tryz.underlying4
  a4 := Tryz.isAgg4
  z4 := Tryz.sizeOf4
  v4 := Tryz.zeroValue4
  t5 := Tryz.underlying5
  a5 := Tryz.isAgg5
  z5 := Tryz.sizeOf5
  v5 := Tryz.zeroValue5
  t9 := Tryz.underlying9
  a9 := Tryz.isAgg9
  z9 := Tryz.sizeOf9
  v9 := Tryz.zeroValue9
  t26 := Tryz.underlying127
  a26 := Tryz.isAgg127
  z26 := Tryz.sizeOf127
  v26 := Tryz.zeroValue127
  t27 := Tryz.underlying127
  a27 := Tryz.isAgg127
  z27 := Tryz.sizeOf127
  v27 := Tryz.zeroValue127
  t29 := Tryz.underlying9
  a29 := Tryz.isAgg9
  z29 := Tryz.sizeOf9
  v29 := Tryz.zeroValue9
  t32 := Tryz.underlying340
  a32 := Tryz.isAgg340
  z32 := Tryz.sizeOf340
  v32 := Tryz.zeroValue340
  t35 := Tryz.underlying344
  a35 := Tryz.isAgg344
  z35 := Tryz.sizeOf344
  v35 := Tryz.zeroValue344
  t36 := Tryz.underlying345
  a36 := Tryz.isAgg345
  z36 := Tryz.sizeOf345
  v36 := Tryz.zeroValue345
  t41 := Tryz.underlying192
  a41 := Tryz.isAgg192
  z41 := Tryz.sizeOf192
  v41 := Tryz.zeroValue192
  t44 := Tryz.underlying352
  a44 := Tryz.isAgg352
  z44 := Tryz.sizeOf352
  v44 := Tryz.zeroValue352
  t46 := Tryz.underlying354
  a46 := Tryz.isAgg354
  z46 := Tryz.sizeOf354
  v46 := Tryz.zeroValue354
  t53 := Tryz.underlying355
  a53 := Tryz.isAgg355
  z53 := Tryz.sizeOf355
  v53 := Tryz.zeroValue355
  t57 := Tryz.underlying317
  a57 := Tryz.isAgg317
  z57 := Tryz.sizeOf317
  v57 := Tryz.zeroValue317
  t63 := Tryz.underlying360
  a63 := Tryz.isAgg360
  z63 := Tryz.sizeOf360
  v63 := Tryz.zeroValue360
  t64 := Tryz.underlying74
  a64 := Tryz.isAgg74
  z64 := Tryz.sizeOf74
  v64 := Tryz.zeroValue74 }

theorem Tryz.sorts167 (m : Nat) : AnyZ.SortsIn Tryz.prog Tryz.sorted167_ren Fence.wide m :=
  ⟨fun blk off cap ss W hH hblk hsz => callsIn_wide.2 (AnyM.slices_Sort_string Tryz.sort212 blk off cap ss W hH hblk hsz),
   fun p cap W => callsIn_wide.2 (AnyM.slices_Sort_string_none Tryz.sort212 p cap W)⟩
theorem Tryz.maps_Keys_168 (mb : Option Nat) (W : World) : CallsIn Fence.wide 5 Tryz.prog 168 #[.map mb] W fun e w' => e = .returned (.func (.func 213) #[] #[.pointer (some ⟨W.heap.size, 0, none⟩)]) ∧ w' = W.alloc (.cells #[.map mb] 107) :=
  AnyZ.keys_in Tryz.keys168 Fence.wide 5 trivial rfl mb W
set_option maxHeartbeats 1000000 in
theorem Tryz.slices_Sorted_keys_167_168 {H : Type} (b nn : Nat) (D0 : DataW H) (R : Value → Option (DataW H × List MemPlace)) (w : World) (hown : w.ownsMap Tryz.prog 9 R b nn D0) (hmax : Maps.size D0 ≤ maxLen) (hbytes : Maps.size D0 * 16 ≤ 140737488355328) :
    CallsIn Fence.wide 5 Tryz.prog 167 #[.func (.func 213) #[] #[.pointer (some ⟨w.heap.size, 0, none⟩)]] (w.alloc (.cells #[.map (some b)] 107)) fun e w' => ∃ (v : Value) (ss : List (List UInt8)), e = .returned v ∧ ss.Perm (strKeys D0) ∧
      w'.ownsRow (w.alloc (.cells #[.map (some b)] 107)).heap.size 9 1 v ss.length ((ss.mergeSort (fun x y => decide (x ≤ y))).map encStr) ∧ (v = .slice none 0 0 ↔ ss = []) ∧ Below (w.alloc (.cells #[.map (some b)] 107)).heap.size (w.alloc (.cells #[.map (some b)] 107)) w' := by
  have hbl := hown.lt
  have hseq : SeqGives Fence.wide 2 Tryz.prog 213 #[.pointer (some ⟨w.heap.size, 0, none⟩)] encStr (fun ss => ss.Perm (strKeys D0)) (Maps.size D0) (w.alloc (.cells #[.map (some b)] 107)) :=
    AnyZ.keys_gives (ρ := Tryz.keys168_ren) { Tryz.keys168 with } Fence.wide _ trivial rfl (by omega) w.heap.size b nn D0 _ (by simp) (by simp) (by
      obtain ⟨es, clock, hb, Ft, hs, hD⟩ := hown
      exact ⟨es, clock, (Below.heap_alloc _ _ b hbl).trans hb, Ft, hs, hD⟩)
  exact AnyZ.sorted_in Tryz.sorted167 Fence.wide 5 trivial trivial trivial trivial rfl (by omega) (Tryz.sorts167 _) (enters_of Tryz.func212 (by kernel_rfl) rfl) 213 #[.pointer (some ⟨w.heap.size, 0, none⟩)] trivial (enters_of Tryz.func213 (by kernel_rfl) rfl) _ _ hmax hbytes _ hseq
set_option maxHeartbeats 1000000 in
theorem Tryz.slices_Sorted_keys_nil_167_168 (w : World) :
    CallsIn Fence.wide 5 Tryz.prog 167 #[.func (.func 213) #[] #[.pointer (some ⟨w.heap.size, 0, none⟩)]] (w.alloc (.cells #[.map none] 107)) fun e w' => ∃ (v : Value) (ss : List (List UInt8)), e = .returned v ∧ ss = [] ∧
      w'.ownsRow (w.alloc (.cells #[.map none] 107)).heap.size 9 1 v ss.length ((ss.mergeSort (fun x y => decide (x ≤ y))).map encStr) ∧ (v = .slice none 0 0 ↔ ss = []) ∧ Below (w.alloc (.cells #[.map none] 107)).heap.size (w.alloc (.cells #[.map none] 107)) w' := by
  have hseq : SeqGives Fence.wide 2 Tryz.prog 213 #[.pointer (some ⟨w.heap.size, 0, none⟩)] encStr (fun ss : List (List UInt8) => ss = []) 0 (w.alloc (.cells #[.map none] 107)) :=
    AnyZ.keys_gives_nil (ρ := Tryz.keys168_ren) { Tryz.keys168 with } Fence.wide _ trivial rfl w.heap.size _ (by simp) (by simp)
  exact AnyZ.sorted_in Tryz.sorted167 Fence.wide 5 trivial trivial trivial trivial rfl (by omega) (Tryz.sorts167 _) (enters_of Tryz.func212 (by kernel_rfl) rfl) 213 #[.pointer (some ⟨w.heap.size, 0, none⟩)] trivial (enters_of Tryz.func213 (by kernel_rfl) rfl) _ 0 (Nat.zero_le _) (by omega) _ hseq
end Go.Proofs

/- Files: all files by name. -/
namespace Go.Proofs.YtanbiinomagdbaaGreat
open Go.RowKit Go.Maps

def Ob.bytes : Ob → List UInt8
  | .file b => b
  | _ => []
def KS.files (K : KS) : List Nm := K.fidx.map fun i => (K.nameOf i, (K.obOf i).bytes)
def fnames (K : KS) : List (List UInt8) := K.fidx.map fun i => (K.nameOf i).data.toList
theorem fnames_sorted {K : KS} (h : KNm K) : (fnames K).Pairwise (fun a b => leB a b = true) := by
  unfold fnames KS.fidx
  refine List.pairwise_map.2 ?_
  refine ((h.sorted.filter _).imp fun {a b} hab => ?_)
  exact decide_eq_true (List.le_of_lt hab)
theorem keys_are {K : KS} (h : KNm K) {ss : List (List UInt8)} (hp : ss.Perm (fnames K)) : ss.mergeSort (fun x y => decide (x ≤ y)) = fnames K := by
  show ss.mergeSort leB = _
  rw [mergeSort_of_perm hp]
  exact List.mergeSort_of_pairwise (fnames_sorted h)
theorem fl_strs (K : KS) (I : PI) : ((K.fl I).map fun p => strOf p.1) = fnames K := by
  unfold KS.fl fnames
  rw [List.map_map]
  rfl
theorem sorted_any {w : World} {ρ : Nat → Option PTag} {I : PI} {K : KS} (h : PK w ρ I K) :
    Calls Tryz.prog 167 #[.func (.func 213) #[] #[.pointer (some ⟨w.heap.size, 0, none⟩)]] (w.alloc (.cells #[.map (some I.fm)] 107)) fun e w' => ∃ v, e = .returned v ∧ w'.ownsRow (w.alloc (.cells #[.map (some I.fm)] 107)).heap.size 9 1 v (fnames K).length ((fnames K).map encStr) ∧ Below (w.alloc (.cells #[.map (some I.fm)] 107)).heap.size (w.alloc (.cells #[.map (some I.fm)] 107)) w' := by
  obtain ⟨D, h1, h2, h3⟩ := (h.comp .fmap).1.keys skeyed Tryz.underlying9
  have hfew : (K.fl I).length ≤ 256 := by
    have := h.ok.named
    have h4 : (K.fl I).length ≤ K.nm.length := by unfold KS.fl KS.fidx; simpa using List.length_filter_le _ _
    omega
  rw [fl_strs] at h3
  refine (callsIn_wide.1 (Tryz.slices_Sorted_keys_167_168 I.fm _ D ptrElem w h1 (by unfold maxLen; omega) (by omega))).mono ?_
  rintro e w' ⟨v, ss, rfl, hS, hrow, -, hb⟩
  have hp := hS.trans h3
  rw [keys_are h.nm hp, hp.length_eq] at hrow
  exact ⟨v, rfl, hrow, hb⟩
theorem kbytes_any (O : Nat → Prop) (p : Nat) (b : List UInt8) (w : World) (h : PObj w O p (.file b)) :
    Calls Tryz.prog 169 #[.pointer (some ⟨p, 0, none⟩)] w fun e w' => ∃ v, e = .returned v ∧ w'.ownsRow w.heap.size 5 1 v b.length (b.map bv) ∧ Below w.heap.size w w' :=
  (po_fbytes O p b w h).mono fun _ _ ⟨a, b, c⟩ => ⟨_, a, b, c⟩
theorem name_few {s : ByteArray} (h : nameOk s = true) : s.size ≤ 64 := by
  unfold nameOk at h
  simp only [Bool.and_eq_true, decide_eq_true_eq] at h
  exact h.2.1
theorem file_at {K : KS} (h : KOk K) {k : Nat} (hk : k < (fnames K).length) : ∃ i L, i ∈ K.nm ∧ i < K.th.length ∧ K.obOf i = .file L ∧ (fnames K)[k]? = some (K.nameOf i).data.toList ∧ K.files[k]? = some (K.nameOf i, L) := by
  have hk' : k < K.fidx.length := by simpa [fnames] using hk
  have hm := List.mem_filter.1 (List.getElem_mem hk')
  have hkind : (K.obOf K.fidx[k]).kind = 1 := by simpa using hm.2
  cases ho : K.obOf K.fidx[k] with
  | file L =>
    refine ⟨K.fidx[k], L, hm.1, h.nm _ hm.1, ho, ?_, ?_⟩
    · simp [fnames, hk']
    · simp [KS.files, hk', ho, Ob.bytes]
  | term ls scr => rw [ho] at hkind; cases hkind
  | pipe q rd wt => rw [ho] at hkind; cases hkind
theorem names_cell {W : World} {va : Option Addr} {vc N k : Nat} {ns : List (List UInt8)} {s : ByteArray} (h : W.ownsRow 0 9 1 (.slice va N vc) N (ns.map encStr)) (hk : k < N) (hs : ns[k]? = some s.data.toList) : ∃ vb, va = some ⟨vb, 0, none⟩ ∧ W.cell? ⟨vb, k, none⟩ = some (.string s) := by
  have hx := h
  rcases h.2 with ⟨e, _⟩ | ⟨g, cap, cur, e, _⟩
  · simp only [Value.slice.injEq] at e; omega
  · simp only [Value.slice.injEq] at e
    obtain ⟨rfl, _, rfl⟩ := e
    refine ⟨g, rfl, ?_⟩
    rw [hx.cellAt k (by omega), List.getElem?_map, hs]
    simp [encStr]
theorem kkeys_any (mb : Option Nat) (W : World) : Calls Tryz.prog 168 #[.map mb] W fun e w' => e = .returned (.func (.func 213) #[] #[.pointer (some ⟨W.heap.size, 0, none⟩)]) ∧ w' = W.alloc (.cells #[.map mb] 107) := callsIn_wide.1 (Tryz.maps_Keys_168 mb W)
set_option maxRecDepth 100000 in
set_option maxHeartbeats 4000000 in
theorem kfiles_any (ρ : Nat → Option PTag) (I : PI) (K : KS) (w : World) (h : PK w ρ I K) :
    Calls Tryz.prog 71 #[.pointer (some ⟨I.kb, 0, none⟩)] w fun e w' => ∃ v us, e = .returned v ∧ w'.ownsRow w.heap.size 114 2 v K.files.length (ncs K.files us) ∧ LCells w' w.heap.size (K.files.map Prod.snd) us ∧ Below w.heap.size w w' := by
  have H := hide h
  have c0 := h.cells.made
  have c1 := h.cells.files
  have sl := (h.comp .fmap).1.len Tryz.underlying107
  have hflen : (K.fl I).length = (fnames K).length := by simp [KS.fl, fnames]
  obtain ⟨N, hN⟩ : ∃ N, N = (fnames K).length := ⟨_, rfl⟩
  rw [hflen, ← hN] at sl
  have HN := hide hN
  have HN9 : Hid (N ≤ 256) := hide (by
    have := h.ok.named
    have h4 : (K.fl I).length ≤ K.nm.length := by unfold KS.fl KS.fidx; simpa using List.length_filter_le _ _
    omega)
  obtain ⟨i0, hi, hz0, hz1, hz2⟩ := info_parts Tryz.infoN
  clear h hflen hN
  go_enter Tryz.func71, Tryz.ntmps71
  go_wp2_with fail
  refine (kmade_any I.kb w c0).mono ?_
  rintro e w1 ⟨rfl, rfl⟩
  go_wp2_with (at_make; refine wpList_make_own _ rfl _ _ 22 rfl w1.heap.size 114 i0 (.agg #[.string ByteArray.empty, .slice none 0 0]) 2 Tryz.underlying22 hi hz0 hz1 _ _ _ N rfl rfl rfl (by rw [hz2]; have := HN9.out; omega) (by have := HN9.out; unfold maxLen; omega) (Nat.le_refl _) ?_; intro w2 hown2 hgrow2; have HO2 := hide hown2; have HB2 : Hid (Below w1.heap.size w1 w2) := hide ((Below.refl _ w1).grown hgrow2 (Nat.le_refl _) (fun k e => by cases e)); have H2 := hide (H.out.under HB2.out); have c2 := H2.out.cells.files; clear hown2 hgrow2 c0 c1 sl)
  refine (kkeys_any _ _).mono ?_
  rintro _ _ ⟨rfl, rfl⟩
  go_wp2_with fail
  refine (sorted_any H2.out).mono ?_
  rintro e w3 ⟨v, rfl, hrow, hB3⟩
  obtain ⟨va, vc, rfl⟩ := owns_slice hrow
  have HRow := hide (owns_mono hrow (Nat.zero_le _))
  rw [← HN.out] at HRow ⊢
  have HB3 : Hid (Below w1.heap.size w1 w3) := hide (HB2.out.trans (((recv_below w2 _).trans (hB3.mono (recv_below w2 _).size)).mono HB2.out.size))
  have HO3 := hide (owns_below HO2.out ((recv_below w2 _).trans (hB3.mono (recv_below w2 _).size)))
  clear hrow hB3 c2
  go_wp2_with fail
  go_loopw [3, 22] (fun ov i wr => ∃ (k : Nat) (us : List Value), k ≤ N ∧ i = .int .i64 k ∧ Hid (wr.ownsRow w1.heap.size 114 2 ov k (ncs (K.files.take k) us)) ∧ Hid (LCells wr w1.heap.size ((K.files.take k).map Prod.snd) us) ∧ Hid (wr.ownsRow 0 9 1 (.slice va N vc) N ((fnames K).map encStr)) ∧ Hid (Below w1.heap.size w1 wr)) (fun _ i _ => N - (intOf i).toNat)
  case atStart => exact ⟨0, [], Nat.zero_le _, rfl, HO3, hide ⟨rfl, (fun j hj => by simp at hj), (fun i j vi vj m _ h1 => by simp at h1)⟩, HRow, HB3⟩
  case round =>
    obtain ⟨k, us, hk, rfl, HO, HL, HRw, HB⟩ := hrel
    obtain ⟨oa, oc, rfl⟩ := owns_slice HO.out
    clear HO3 HRow HB3 HO2 HB2 H2
    by_cases hlt : k < N
    · obtain ⟨i, L, hmem, hith, hobi, hfn, hfile⟩ := file_at H.out.ok (k := k) (by rw [← HN.out]; exact hlt)
      have hH := H.out.under HB.out
      have hHd := hH
      have hsz : (K.nameOf i).size ≤ maxLen := by have := name_few (H.out.nm.ok i hmem); unfold maxLen; omega
      have hlk := look_file hHd hsz hmem rfl (by rw [hobi]; rfl) false
      simp only [Bool.false_eq_true, if_false] at hlk
      have HOb : Hid (PObj wr (fun k => ρ k = some (.obj i)) (I.ob i) (.file L)) := hide (by have := hHd.comp (.obj i) hith; rw [← KS.obOf_eq hith, hobi] at this; exact this)
      have hc1 := hH.cells.files
      have hkb : I.kb < wr.heap.size := World.block_lt_of_cell? wr _ hc1
      have hkw : I.kb < w1.heap.size := World.block_lt_of_cell? w1 _ H.out.cells.files
      obtain ⟨vb, rfl, hcell⟩ := names_cell HRw.out hlt hfn
      have hk1 : (0 : Int) ≤ (k : Int) := by omega
      have hk2 : (k : Int) < (N : Int) := by omega
      have hNs := HN9.out
      have hBs := HB.out.size
      have hul := HL.out.1
      simp only [List.length_map, List.length_take] at hul
      have hkf : k < K.files.length := (List.getElem?_eq_some_iff.1 hfile).1
      rw [Nat.min_eq_left (by omega)] at hul
      have hl4 : L.length ≤ 1048576 := HOb.out.1
      have HPk := hide hfile
      generalize K.nameOf i = nm at *
      clear hfn hobi hH hHd hfile hsz
      go_wp2_with fail
      refine (kbytes_any _ (I.ob i) L _ HOb.out).mono ?_
      rintro e w4 ⟨u, rfl, hownu, hB4⟩
      obtain ⟨ua, uc, rfl⟩ := owns_slice hownu
      have hz4 : wr.heap.size ≤ w4.heap.size := hB4.size
      have hB04 : Below w1.heap.size w1 w4 := HB.out.trans (hB4.mono HB.out.size)
      have K4 : w4.cell? ⟨I.kb, 1, none⟩ = some (.map (some I.fm)) := (hB4.cell (p := ⟨I.kb, 1, none⟩) hkb).trans hc1
      have hBa : Below w4.heap.size w4 (w4.alloc (Obj.cells #[.string nm, .slice ua L.length uc] 114)) := (Below.refl _ _).alloc (Nat.le_refl _) _
      have Ka : (w4.alloc (Obj.cells #[.string nm, .slice ua L.length uc] 114)).cell? ⟨I.kb, 1, none⟩ = some (.map (some I.fm)) := (hBa.cell (p := ⟨I.kb, 1, none⟩) (Nat.lt_of_lt_of_le hkb hz4)).trans K4
      have hB0a := hB04.trans (hBa.mono hB04.size)
      have hB4a := hB4.trans (hBa.mono hB4.size)
      have HOa := hide (owns_below (W := wr) HO.out hB4a)
      have HLa := hide (LCells.below (W := wr) HL.out hB4a)
      have HUa := hide (owns_below hownu hBa)
      have hcu0 : (w4.alloc (Obj.cells #[.string nm, .slice ua L.length uc] 114)).cell? ⟨w4.heap.size, 0, none⟩ = some (.string nm) := (by simp only [World.cell?, heap_alloc_new]; rfl)
      have hcu1 : (w4.alloc (Obj.cells #[.string nm, .slice ua L.length uc] 114)).cell? ⟨w4.heap.size, 1, none⟩ = some (.slice ua L.length uc) := (by simp only [World.cell?, heap_alloc_new]; rfl)
      have hza := size_new w4 (Obj.cells #[.string nm, .slice ua L.length uc] 114)
      obtain ⟨s', w7, hrun, HO7, hg7, hb7⟩ := run_append_named (w4.alloc (Obj.cells #[.string nm, .slice ua L.length uc] 114)) 22 w1.heap.size _ k _ w4.heap.size 1 nm _ HOa.out hcu0 hcu1 rfl (by omega) (by omega)
      have HR := hide hrun
      have HX := hide hownu
      have K7 : w7.cell? ⟨I.kb, 1, none⟩ = some (.map (some I.fm)) := (World.cell?_of_block (w := w4.alloc (Obj.cells #[.string nm, .slice ua L.length uc] 114)) (a := ⟨I.kb, 1, none⟩) (hg7.block I.kb (by show I.kb < _; omega) (fun e => by have := (HOa.out.lt I.kb e.symm).1; omega))).trans Ka
      clear hrun hownu hcu0 hcu1
      go_wp2_with (first | (at_builtin; refine Lib.wpList_append_run _ rfl _ _ _ _ rfl _ _ rfl rfl _ _ HR.out ?_) | fail)
      all_goals
        go_roundw
        case rel =>
          have hLa : LCells w7 w1.heap.size ((K.files.take k).map Prod.snd) us := HLa.out.keep fun j hj v i h1 e => by
            obtain ⟨v', h2, h3⟩ := HLa.out.2.1 j hj
            rw [h1] at h2
            cases h2
            exact hg7.block i (h3.lt i e).2 (fun e' => Te_owns_apart h3 HOa.out (by decide) i e e'.symm)
          have hU7 := owns_keep (W' := w7) HUa.out fun i e => hg7.block i (HUa.out.lt i e).2 (fun e' => Te_owns_apart HUa.out HOa.out (by decide) i e e'.symm)
          refine ⟨k + 1, us ++ [.slice ua L.length uc], by omega, by go_num, ?_, ?_, hide ?_, hide (hB0a.grown hg7 hB0a.size (fun j e => (HOa.out.lt j e).1))⟩
          · have h8 := HO7.out
            rw [← ncs_snoc (K.files.take k) us (nm, L) _ (by simp; omega)] at h8
            rw [show K.files.take (k + 1) = K.files.take k ++ [(nm, L)] by rw [List.take_add_one, HPk.out]; rfl]
            exact h8
          · have h9 : k < (K.files.map Prod.snd).length := by rw [List.length_map]; exact (List.getElem?_eq_some_iff.1 HPk.out).1
            rw [List.map_take] at hLa ⊢
            refine LCells.snoc h9 hLa _ ?_ (fun j v i h1 e e' => ?_)
            · rw [List.getElem_map, (List.getElem?_eq_some_iff.1 HPk.out).2]
              exact owns_mono hU7 (by omega)
            · obtain ⟨v', h2, h3⟩ := HL.out.2.1 j (by have := (List.getElem?_eq_some_iff.1 h1).1; have := HL.out.1; omega)
              rw [h1] at h2
              cases h2
              have := (h3.lt i e).2
              have : wr.heap.size ≤ i := (HX.out.lt i e').1
              omega
          · exact owns_keep (owns_below HRw.out hB4a) fun i e => hg7.block i (Nat.lt_of_lt_of_le (HRw.out.lt i e).2 hB4a.size) (fun e' => Te_owns_apart (owns_below HRw.out hB4a) HOa.out (by decide) i e e'.symm)
        case measure => simp [intOf]; omega
    · have hke : k = K.files.length := by have := HN.out; simp only [fnames, KS.files, List.length_map] at *; omega
      go_wp2
      go_ret
      have h1 := HL.out
      have h2 := HO.out
      subst hke
      rw [List.take_length] at h1 h2
      exact ⟨_, us, rfl, h2, h1, HB.out⟩
end Go.Proofs.YtanbiinomagdbaaGreat

/- KernPieces: the kernel's states, as values. -/
namespace Go.Proofs.YtanbiinomagdbaaGreat
open Go.RowKit Go.Maps

theorem KAt.files {w : World} {O : Nat → Prop} {kb : Nat} {K : KS} (h : KAt w O kb K) :
    Calls Tryz.prog 71 #[.pointer (some ⟨kb, 0, none⟩)] w fun e w' => ∃ v us, e = .returned v ∧ w'.ownsRow w.heap.size 114 2 v K.files.length (ncs K.files us) ∧ LCells w' w.heap.size (K.files.map Prod.snd) us ∧ Below w.heap.size w w' := by
  obtain ⟨ρ, I, h1, rfl, h3⟩ := h
  exact kfiles_any ρ I K w h1
end Go.Proofs.YtanbiinomagdbaaGreat

/- Rest and Calls of a kernel; what a refused call leaves, as values. -/
namespace Go.Proofs.YtanbiinomagdbaaGreat
open Go.RowKit Go.Maps

def Refused (K : KS) (E : Int) (K' : KS) : Prop := K'.files = K.files ∧ ((E ≠ 22 ∧ E ≠ 23 ∧ K'.plan = K.plan) ∨ ((E = 22 ∨ E = 23) ∧ K'.plan = K.plan.tail ∧ K.plan ≠ []))
end Go.Proofs.YtanbiinomagdbaaGreat

/- Handles: their calls, those of no kernel, and two kernels side by side. -/
namespace Go.Proofs.YtanbiinomagdbaaGreat
open Go.RowKit Go.Maps

theorem KStep.behind {w w1 w' : World} {O : Nat → Prop} {kb : Nat} {K : KS} (h : KStep w1 O kb K w') (hB : Below w.heap.size w w1) : KStep w O kb K w' := by
  obtain ⟨O', h1, h2, h3⟩ := h
  exact ⟨O', h1, fun k e => (h2 k e).imp id (fun e => Nat.le_trans hB.size e), (Turned.of_below hB).trans h3 (fun _ _ e => e)⟩
set_option maxRecDepth 100000 in
theorem KAt.hwrite {w : World} {O : Nat → Prop} {kb : Nat} {K : KS} (h : KAt w O kb K) (d : Int) (bs : List UInt8) (a1 : Option Addr) (cx : Nat) (hd : I64 d) (hr : K.writes < 9223372036854775807)
    (hb : Bys w (.slice a1 bs.length cx) bs) (hcap : bs.length ≤ cx) (hbig : bs.length ≤ 9223372036854775807) (hap : 0 < bs.length → ∀ k, (Value.slice a1 bs.length cx).ownBlock = some k → ¬ O k) :
    Calls Tryz.prog 323 #[.agg #[.pointer (some ⟨kb, 0, none⟩), .int .i64 d], .slice a1 bs.length cx] w fun e w' => e = .returned (.tuple #[.int .i64 (K.write d bs).1, .int .i64 (K.write d bs).2.1]) ∧ KStep w O kb (K.write d bs).2.2 w' := by
  have hB := recv_below w (Obj.cells #[.pointer (some ⟨kb, 0, none⟩), .int .i64 d] 300)
  have HR := hide ((h.below hB).write d bs a1 cx hd hr (hb.below hB) hcap hbig hap)
  have HB := hide hB
  clear h hB hb hap
  go_enter Tryz.func323, Tryz.ntmps323
  go_wp2_with fail
  refine HR.out.mono ?_
  rintro e w1 ⟨rfl, h1⟩
  have HS := hide (h1.behind HB.out)
  clear h1
  go_wp2
  go_ret2
  exact ⟨rfl, HS.out⟩
set_option maxRecDepth 100000 in
theorem KAt.hseek {w : World} {O : Nat → Prop} {kb : Nat} {K : KS} (h : KAt w O kb K) (d off wh : Int) (hd : I64 d) (ho : I64 off) :
    Calls Tryz.prog 322 #[.agg #[.pointer (some ⟨kb, 0, none⟩), .int .i64 d], .int .i64 off, .int .i64 wh] w fun e w' => e = .returned (.tuple #[.int .i64 (K.seek d off wh).1, .int .i64 (K.seek d off wh).2.1]) ∧ KStep w O kb (K.seek d off wh).2.2 w' := by
  have hB := recv_below w (Obj.cells #[.pointer (some ⟨kb, 0, none⟩), .int .i64 d] 300)
  have HR := hide ((h.below hB).seek d off wh hd ho)
  have HB := hide hB
  clear h hB
  go_enter Tryz.func322, Tryz.ntmps322
  go_wp2_with fail
  refine HR.out.mono ?_
  rintro e w1 ⟨rfl, h1⟩
  have HS := hide (h1.behind HB.out)
  clear h1
  go_wp2
  go_ret2
  exact ⟨rfl, HS.out⟩
def Two (W : World) (B kb mb : Nat) (K M : KS) : Prop := ∃ O P, KAt W O kb K ∧ KAt W P mb M ∧ (∀ j, O j → B ≤ j ∧ j < W.heap.size ∧ ¬ P j) ∧ ∀ j, P j → B ≤ j ∧ j < W.heap.size
theorem cell_keep {O : Nat → Prop} {w w' : World} {g j : Nat} {v : Value} (hT : Turned O w w') (h : w.cell? ⟨g, j, none⟩ = some v) (hO : ¬ O g) : w'.cell? ⟨g, j, none⟩ = some v :=
  (World.cell?_of_block (w := w) (a := ⟨g, j, none⟩) (hT.block g (World.block_lt_of_cell? w _ h) hO)).trans h
theorem KAt.files_ok {w : World} {O : Nat → Prop} {kb : Nat} {K : KS} (h : KAt w O kb K) : K.files.length ≤ 256 ∧ ∀ j (hj : j < K.files.length), K.files[j].2.length ≤ 1048576 ∧ K.files[j].1.size ≤ maxLen := by
  obtain ⟨ρ, I, h1, _, _⟩ := h
  refine ⟨?_, fun j hj => ?_⟩
  · have := h1.ok.named
    have h4 : K.files.length ≤ K.nm.length := by unfold KS.files KS.fidx; simpa using List.length_filter_le _ _
    omega
  · obtain ⟨i, L, hm, hi, ho, _, hf⟩ := file_at h1.ok (k := j) (by simpa [fnames, KS.files] using hj)
    rw [(List.getElem?_eq_some_iff.1 hf).2]
    have := h1.comp (.obj i) hi
    rw [← KS.obOf_eq hi, ho] at this
    exact ⟨this.1, by have := name_few (h1.nm.ok i hm); unfold maxLen; show (K.nameOf i).size ≤ _; omega⟩
theorem bys_none {W W' : World} {v : Value} {l : List UInt8} (h : Bys W v l) (h0 : ¬ 0 < l.length) : Bys W' v l := by
  rcases h with h | h | ⟨_, _, _, _, h, _⟩
  · exact .inl h
  · exact .inr (.inl h)
  · exact absurd h h0
theorem read_few {w : World} {O : Nat → Prop} {kb : Nat} {K : KS} (h : KAt w O kb K) (d n : Int) : (K.read d n).1.length ≤ 1048576 := by
  obtain ⟨ρ, I, h1, _, _⟩ := h
  have ok : ∀ x, K.find d = some x → (K.tho x).ok := fun x hx => by
    have hi := h1.ok.th x (KS.find_some hx).1
    have := (h1.comp (.obj x.th) hi).ok
    rw [KS.tho_eq hi]
    exact this
  unfold KS.read
  split
  · simp
  · rename_i x hx
    have hk := ok x hx
    split
    · simp
    split
    · simp
    split
    · simp
    split
    · simp
    split
    · revert hk
      cases K.tho x with
      | file b => intro hk; simp only [piece_len]; have : b.length ≤ 1048576 := hk; omega
      | term ls scr =>
        intro hk
        simp only [rdH]
        split
        · cases ls with
          | nil => simp [headL]
          | cons l r =>
            have := hk.2.1 0 (by simp)
            simp only [List.getElem_cons_zero] at this
            simp only [headL, List.length_take]
            omega
        · simp
      | pipe q rd wt => intro hk; have : q.length ≤ 4096 := hk.1; simp only [rdB]; split <;> simp <;> omega
    · simp
end Go.Proofs.YtanbiinomagdbaaGreat

/- The reference's kernel: Files. -/
namespace Go.Proofs.YtanbiinomagdbaaGreat
open Go.RowKit

def KS.filesTo (K : KS) (k : Nat) : List Nm := ((K.nm.take k).filter fun i => (K.obOf i).kind == 1).map fun i => (K.nameOf i, (K.obOf i).bytes)
theorem filesTo_all (K : KS) : K.filesTo K.nm.length = K.files := by unfold KS.filesTo KS.files KS.fidx; rw [List.take_length]
theorem filesTo_next (K : KS) (k : Nat) (hk : k < K.nm.length) : K.filesTo (k + 1) = if (K.obOf K.nm[k]).kind == 1 then K.filesTo k ++ [(K.nameOf K.nm[k], (K.obOf K.nm[k]).bytes)] else K.filesTo k := by
  unfold KS.filesTo
  rw [List.take_add_one, List.getElem?_eq_getElem hk, List.filter_append, List.map_append]
  by_cases e : ((K.obOf K.nm[k]).kind == 1) = true
  · rw [if_pos e]; simp [e]
  · rw [if_neg e]; simp [e]
theorem filesTo_few (K : KS) (k : Nat) : (K.filesTo k).length ≤ K.nm.length := by
  unfold KS.filesTo
  rw [List.length_map]
  exact Nat.le_trans (List.length_filter_le _ _) (by rw [List.length_take]; omega)
set_option maxRecDepth 100000 in
set_option maxHeartbeats 8000000 in
theorem rkfiles_any (B : Nat → Prop) (ρ : Nat → Option Tag) (I : RI) (K : KS) (w : World) (h : RK w B ρ I K) :
    Calls Tryz.prog 72 #[.pointer (some ⟨I.kb, 0, none⟩)] w fun e w' => ∃ v us, e = .returned v ∧ w'.ownsRow w.heap.size 114 2 v K.files.length (ncs K.files us) ∧ LCells w' w.heap.size (K.files.map Prod.snd) us ∧ Below w.heap.size w w' := by
  have hb := (h.comp .kern).1
  have hkl : I.kb < w.heap.size := (Array.getElem?_eq_some_iff.1 hb).1
  have c1 : w.cell? ⟨I.kb, 0, none⟩ = some I.vT := by rw [cell_of_row w I.kb 0 _ _ _ hb]; rfl
  have HD := hide (h.comp .trow).1
  have hfew := h.ok.named
  obtain ⟨va, vc, hv⟩ := owns_slice (h.comp .trow).1
  rw [hv] at c1 HD
  have HH := hide h
  clear h hb hv
  go_enter Tryz.func72, Tryz.ntmps72
  go_wp2_with fail
  go_loopw [3, 4] (fun ov iv wr => ∃ (k : Nat) (us : List Value), iv = .int .i64 k ∧ k ≤ K.nm.length ∧ Hid (wr.ownsRow w.heap.size 114 2 ov (K.filesTo k).length (ncs (K.filesTo k) us)) ∧ Hid (LCells wr w.heap.size ((K.filesTo k).map Prod.snd) us) ∧ Hid (Below w.heap.size w wr)) (fun _ iv _ => K.nm.length - (intOf iv).toNat)
  case atStart => exact ⟨0, [], rfl, Nat.zero_le _, hide (World.ownsRow_nil _ _ _ _), hide ⟨rfl, fun j hj => absurd hj (by simp [KS.filesTo]), fun i j vi vj k _ h1 => by simp at h1⟩, hide (Below.refl _ _)⟩
  case round =>
    obtain ⟨k, us, rfl, hk, HO, HL, HB⟩ := hrel
    obtain ⟨oa, oc, rfl⟩ := owns_slice HO.out
    have c0 := (HB.out.cell (p := ⟨I.kb, 0, none⟩) hkl).trans c1
    have hsz := HB.out.size
    by_cases hlt : k < K.nm.length
    · obtain ⟨b, rfl⟩ : ∃ b, va = some ⟨b, 0, none⟩ := by
        rcases HD.out.2 with ⟨h0, _⟩ | ⟨g, cap, cur, h1, _⟩
        · simp only [Value.slice.injEq] at h0; omega
        · simp only [Value.slice.injEq] at h1; exact ⟨g, h1.1⟩
      have hcell := HD.out.cellAt k (by simpa using hlt)
      rw [List.getElem?_map, List.getElem?_eq_getElem hlt] at hcell
      simp only [Option.map_some] at hcell
      have hk1 : (0 : Int) ≤ (k : Int) := by omega
      have hk2 : (k : Int) < (K.nm.length : Int) := by omega
      obtain ⟨x, hx⟩ : ∃ x, x = K.nm[k] := ⟨_, rfl⟩
      have hxt : x < K.th.length := by rw [hx]; exact HH.out.ok.nm _ (List.getElem_mem _)
      have hnext := filesTo_next K k hlt
      rw [← hx] at hcell hnext
      have r0 := (HB.out.cell (p := ⟨b, k, none⟩) (World.block_lt_of_cell? w _ hcell)).trans hcell
      obtain ⟨tn, tk, tf, -⟩ := HH.out.tcell hxt
      have tk' := (HB.out.cell (p := ⟨I.tb x, 1, none⟩) (World.block_lt_of_cell? w _ tk)).trans tk
      have HNx := hide hnext
      have hcw := hcell
      clear hcell hx hnext
      by_cases hkd : (K.obOf x).kind = 1
      · obtain ⟨L, hL⟩ : ∃ L, K.obOf x = .file L := by
          cases ho : K.obOf x with
          | file L => exact ⟨L, rfl⟩
          | term _ _ => rw [ho] at hkd; simp [Ob.kind] at hkd
          | pipe _ _ _ => rw [ho] at hkd; simp [Ob.kind] at hkd
        rw [hkd] at tk'
        have tn' := (HB.out.cell (p := ⟨I.tb x, 0, none⟩) (World.block_lt_of_cell? w _ tn)).trans tn
        have tf' := (HB.out.cell (p := ⟨I.tb x, 2, none⟩) (World.block_lt_of_cell? w _ (tf L hL))).trans (tf L hL)
        have hob := (HH.out.comp (.obj x)) hxt
        rw [← KS.obOf_eq hxt, hL] at hob
        obtain ⟨⟨u, Bu, hF, -⟩, hLl⟩ := hob
        have hLl' : L.length ≤ 1048576 := hLl
        obtain ⟨ua, uc, hu⟩ := owns_slice hF.row
        have d0 := hF.data
        have hby := Bys.of_owns hF.row
        rw [hu] at d0 hby
        have d0' := (HB.out.cell (p := ⟨I.ob x, 0, none⟩) (World.block_lt_of_cell? w _ d0)).trans d0
        have HNx2 : Hid (K.filesTo (k + 1) = K.filesTo k ++ [(K.nameOf x, L)]) := hide (by rw [HNx.out, hL]; rfl)
        obtain ⟨nm, hnm⟩ : ∃ nm, nm = K.nameOf x := ⟨_, rfl⟩
        rw [← hnm] at tn' HNx2
        have hS : ∀ w', Below w.heap.size w w' → w'.cell? ⟨I.kb, 0, none⟩ = some (.slice (some ⟨b, 0, none⟩) K.nm.length vc) ∧ w'.cell? ⟨b, k, none⟩ = some (.pointer (some ⟨I.tb x, 0, none⟩)) ∧ w'.cell? ⟨I.tb x, 0, none⟩ = some (.string nm) ∧ w'.cell? ⟨I.tb x, 2, none⟩ = some (.pointer (some ⟨I.ob x, 0, none⟩)) ∧ w'.cell? ⟨I.ob x, 0, none⟩ = some (.slice ua L.length uc) := fun w' hW => ⟨(hW.cell (p := ⟨I.kb, 0, none⟩) hkl).trans c1, (hW.cell (p := ⟨b, k, none⟩) (World.block_lt_of_cell? w _ hcw)).trans hcw, (hW.cell (p := ⟨I.tb x, 0, none⟩) (World.block_lt_of_cell? w _ tn)).trans (by rw [hnm]; exact tn), (hW.cell (p := ⟨I.tb x, 2, none⟩) (World.block_lt_of_cell? w _ (tf L hL))).trans (tf L hL), (hW.cell (p := ⟨I.ob x, 0, none⟩) (World.block_lt_of_cell? w _ d0)).trans d0⟩
        have hBd : Below w.heap.size w wr.drew := HB.out.drew
        obtain ⟨s1, w5, hrun1, HO5, hg5, -⟩ := run_append_bytes wr.drew 40 wr.heap.size (.slice none 0 0) (.slice ua L.length uc) [] L (World.ownsRow_nil _ _ _ _) (hby.below hBd) (by simp; omega) (Nat.le_refl _)
        obtain ⟨xa, xc, rfl⟩ := owns_slice HO5.out
        rw [List.nil_append] at HO5 hrun1
        have hB5r : Below wr.heap.size wr.drew w5 := (Below.refl _ wr.drew).grown hg5 (Nat.le_refl _) (fun k e => by cases e)
        have hB5 : Below w.heap.size w w5 := hBd.trans (hB5r.mono hsz)
        have hBa := recv_below w5 (Obj.cells #[.string nm, .slice xa L.length xc] 114)
        have hBA : Below w.heap.size w (w5.alloc (Obj.cells #[.string nm, .slice xa L.length xc] 114)) := hB5.trans (hBa.mono hB5.size)
        have hB5a : Below wr.heap.size wr.drew (w5.alloc (Obj.cells #[.string nm, .slice xa L.length xc] 114)) := hB5r.trans (hBa.mono hB5r.size)
        have HOa := hide (owns_below (W := wr.drew) HO.out hB5a)
        have HLa := hide (LCells.below (W := wr.drew) HL.out hB5a)
        have HUa := hide (owns_below HO5.out hBa)
        have hcu0 : (w5.alloc (Obj.cells #[.string nm, .slice xa L.length xc] 114)).cell? ⟨w5.heap.size, 0, none⟩ = some (.string nm) := by simp only [World.cell?, heap_alloc_new]; rfl
        have hcu1 : (w5.alloc (Obj.cells #[.string nm, .slice xa L.length xc] 114)).cell? ⟨w5.heap.size, 1, none⟩ = some (.slice xa L.length xc) := by simp only [World.cell?, heap_alloc_new]; rfl
        have hfe := filesTo_few K k
        obtain ⟨s', w7, hrun2, HO7, hg7, hb7⟩ := run_append_named (w5.alloc (Obj.cells #[.string nm, .slice xa L.length xc] 114)) 22 w.heap.size _ (K.filesTo k).length _ w5.heap.size 1 nm _ HOa.out hcu0 hcu1 rfl (by omega) (by have := hBA.size; omega)
        obtain ⟨sa', sc', rfl⟩ := owns_slice HO7.out
        have hB7 : Below w.heap.size w w7 := hBA.grown hg7 hBA.size (fun j e => (HOa.out.lt j e).1)
        have K0 := hS wr.drew hBd
        have K5 := hS w5 hB5
        have Ka := hS _ hBA
        have K7 := hS w7 hB7
        have HR1 := hide hrun1
        have HR2 := hide hrun2
        have HE : Hid (∃ us', w7.ownsRow w.heap.size 114 2 (.slice sa' ((K.filesTo k).length + 1) sc') (K.filesTo (k + 1)).length (ncs (K.filesTo (k + 1)) us') ∧ LCells w7 w.heap.size ((K.filesTo (k + 1)).map Prod.snd) us') := hide (by
          have hul := HL.out.1
          rw [List.length_map] at hul
          refine ⟨us ++ [.slice xa L.length xc], ?_, ?_⟩
          · rw [HNx2.out, ncs_snoc _ _ _ _ hul, List.length_append]
            exact HO7.out
          · have hLa : LCells w7 w.heap.size ((K.filesTo k).map Prod.snd) us := HLa.out.keep fun j hj v i h1 e => by
              obtain ⟨v', h2, h3⟩ := HLa.out.2.1 j hj
              rw [h1] at h2
              cases h2
              exact hg7.block i (h3.lt i e).2 (fun e' => Te_owns_apart h3 HOa.out (by decide) i e e'.symm)
            have hU7 := owns_keep (W' := w7) HUa.out fun i e => hg7.block i (HUa.out.lt i e).2 (fun e' => Te_owns_apart HUa.out HOa.out (by decide) i e e'.symm)
            have h9 : (K.filesTo k).length < ((K.filesTo (k + 1)).map Prod.snd).length := by rw [HNx2.out]; simp
            have h10 : (K.filesTo (k + 1)).map Prod.snd = ((K.filesTo (k + 1)).map Prod.snd).take ((K.filesTo k).length + 1) := by rw [List.take_of_length_le (by rw [HNx2.out]; simp)]
            have h11 : ((K.filesTo (k + 1)).map Prod.snd).take (K.filesTo k).length = (K.filesTo k).map Prod.snd := by rw [HNx2.out, List.map_append, List.take_append_of_le_length (by simp), List.take_of_length_le (by simp)]
            have h12 : ((K.filesTo (k + 1)).map Prod.snd)[(K.filesTo k).length] = L := by simp [HNx2.out]
            rw [h10]
            refine LCells.snoc h9 (by rw [h11]; exact hLa) _ ?_ (fun j v i h1 e e' => ?_)
            · rw [h12]
              exact owns_mono hU7 hsz
            · obtain ⟨v', h2, h3⟩ := HL.out.2.1 j (by have := (List.getElem?_eq_some_iff.1 h1).1; have := HL.out.1; omega)
              rw [h1] at h2
              cases h2
              have := (h3.lt i e).2
              have : wr.heap.size ≤ i := (HO5.out.lt i e').1
              omega)
        have HB7 := hide hB7
        have H0 := hide hS
        clear hS hBd hrun1 hrun2 hg5 hB5r hB5 hBa hBA hB5a hcu0 hcu1 hg7 hb7 hB7 hby hF d0 tf tn tk hcw hnm
        go_wp2_with fail
        go_region_held3 (fun w' => w'.cell? ⟨I.kb, 0, none⟩ = some (.slice (some ⟨b, 0, none⟩) K.nm.length vc) ∧ w'.cell? ⟨b, k, none⟩ = some (.pointer (some ⟨I.tb x, 0, none⟩)) ∧ w'.cell? ⟨I.tb x, 0, none⟩ = some (.string nm) ∧ w'.cell? ⟨I.tb x, 2, none⟩ = some (.pointer (some ⟨I.ob x, 0, none⟩)) ∧ w'.cell? ⟨I.ob x, 0, none⟩ = some (.slice ua L.length uc))
          (first | exact K7 | exact Ka | exact K5 | exact K0 | go_keep)
          (first
            | (refine step_append_run _ (by rfl) _ _ _ _ (by rfl) _ _ (by rfl) (by rfl) _ _ HR2.out ?_)
            | (refine step_append_run _ (by rfl) _ _ _ _ (by rfl) _ _ (by rfl) (by rfl) _ _ HR1.out ?_)
            | fail)
        all_goals
          go_wp2
          go_roundw
          case rel =>
            obtain ⟨us', h1, h2⟩ := HE.out
            exact ⟨k + 1, us', by go_num, by omega, hide h1, hide h2, HB7⟩
          case measure => simp [intOf]; omega
      · have hkd2 : ((K.obOf x).kind == 1) = false := by simpa using hkd
        have HNx2 : Hid (K.filesTo (k + 1) = K.filesTo k) := hide (by rw [HNx.out, if_neg (by simp [hkd])])
        go_wp2
        go_roundw
        case rel => exact ⟨k + 1, us, by go_num, by omega, by rw [HNx2.out]; exact HO, by rw [HNx2.out]; exact HL, HB⟩
        case measure => simp [intOf]; omega
    · obtain rfl : k = K.nm.length := by omega
      have HA : Hid (K.filesTo K.nm.length = K.files) := hide (filesTo_all K)
      go_wp2
      go_ret
      rw [← HA.out]
      exact ⟨_, us, rfl, HO.out, HL.out, HB.out⟩
end Go.Proofs.YtanbiinomagdbaaGreat

/- The reference's kernel: Screens. -/
namespace Go.Proofs.YtanbiinomagdbaaGreat
open Go.RowKit

def Ob.shown : Ob → List UInt8
  | .term _ s => s
  | _ => []
def KS.screens (K : KS) : List Nm := K.tidx.map fun i => (K.nameOf i, (K.obOf i).shown)
def KS.screensTo (K : KS) (k : Nat) : List Nm := ((K.nm.take k).filter fun i => (K.obOf i).kind == 2).map fun i => (K.nameOf i, (K.obOf i).shown)
theorem screensTo_all (K : KS) : K.screensTo K.nm.length = K.screens := by unfold KS.screensTo KS.screens KS.tidx; rw [List.take_length]
theorem screensTo_next (K : KS) (k : Nat) (hk : k < K.nm.length) : K.screensTo (k + 1) = if (K.obOf K.nm[k]).kind == 2 then K.screensTo k ++ [(K.nameOf K.nm[k], (K.obOf K.nm[k]).shown)] else K.screensTo k := by
  unfold KS.screensTo
  rw [List.take_add_one, List.getElem?_eq_getElem hk, List.filter_append, List.map_append]
  by_cases e : ((K.obOf K.nm[k]).kind == 2) = true
  · rw [if_pos e]; simp [e]
  · rw [if_neg e]; simp [e]
theorem screensTo_few (K : KS) (k : Nat) : (K.screensTo k).length ≤ K.nm.length := by
  unfold KS.screensTo
  rw [List.length_map]
  exact Nat.le_trans (List.length_filter_le _ _) (by rw [List.length_take]; omega)
set_option maxRecDepth 100000 in
set_option maxHeartbeats 8000000 in
theorem rkscreens_any (B : Nat → Prop) (ρ : Nat → Option Tag) (I : RI) (K : KS) (w : World) (h : RK w B ρ I K) :
    Calls Tryz.prog 75 #[.pointer (some ⟨I.kb, 0, none⟩)] w fun e w' => ∃ v us, e = .returned v ∧ w'.ownsRow w.heap.size 114 2 v K.screens.length (ncs K.screens us) ∧ LCells w' w.heap.size (K.screens.map Prod.snd) us ∧ Below w.heap.size w w' := by
  have hb := (h.comp .kern).1
  have hkl : I.kb < w.heap.size := (Array.getElem?_eq_some_iff.1 hb).1
  have c1 : w.cell? ⟨I.kb, 0, none⟩ = some I.vT := by rw [cell_of_row w I.kb 0 _ _ _ hb]; rfl
  have HD := hide (h.comp .trow).1
  have hfew := h.ok.named
  obtain ⟨va, vc, hv⟩ := owns_slice (h.comp .trow).1
  rw [hv] at c1 HD
  have HH := hide h
  clear h hb hv
  go_enter Tryz.func75, Tryz.ntmps75
  go_wp2_with fail
  go_loopw [3, 4] (fun ov iv wr => ∃ (k : Nat) (us : List Value), iv = .int .i64 k ∧ k ≤ K.nm.length ∧ Hid (wr.ownsRow w.heap.size 114 2 ov (K.screensTo k).length (ncs (K.screensTo k) us)) ∧ Hid (LCells wr w.heap.size ((K.screensTo k).map Prod.snd) us) ∧ Hid (Below w.heap.size w wr)) (fun _ iv _ => K.nm.length - (intOf iv).toNat)
  case atStart => exact ⟨0, [], rfl, Nat.zero_le _, hide (World.ownsRow_nil _ _ _ _), hide ⟨rfl, fun j hj => absurd hj (by simp [KS.screensTo]), fun i j vi vj k _ h1 => by simp at h1⟩, hide (Below.refl _ _)⟩
  case round =>
    obtain ⟨k, us, rfl, hk, HO, HL, HB⟩ := hrel
    obtain ⟨oa, oc, rfl⟩ := owns_slice HO.out
    have c0 := (HB.out.cell (p := ⟨I.kb, 0, none⟩) hkl).trans c1
    have hsz := HB.out.size
    by_cases hlt : k < K.nm.length
    · obtain ⟨b, rfl⟩ : ∃ b, va = some ⟨b, 0, none⟩ := by
        rcases HD.out.2 with ⟨h0, _⟩ | ⟨g, cap, cur, h1, _⟩
        · simp only [Value.slice.injEq] at h0; omega
        · simp only [Value.slice.injEq] at h1; exact ⟨g, h1.1⟩
      have hcell := HD.out.cellAt k (by simpa using hlt)
      rw [List.getElem?_map, List.getElem?_eq_getElem hlt] at hcell
      simp only [Option.map_some] at hcell
      have hk1 : (0 : Int) ≤ (k : Int) := by omega
      have hk2 : (k : Int) < (K.nm.length : Int) := by omega
      obtain ⟨x, hx⟩ : ∃ x, x = K.nm[k] := ⟨_, rfl⟩
      have hxt : x < K.th.length := by rw [hx]; exact HH.out.ok.nm _ (List.getElem_mem _)
      have hnext := screensTo_next K k hlt
      rw [← hx] at hcell hnext
      have r0 := (HB.out.cell (p := ⟨b, k, none⟩) (World.block_lt_of_cell? w _ hcell)).trans hcell
      obtain ⟨tn, tk, -, tf⟩ := HH.out.tcell hxt
      have tk' := (HB.out.cell (p := ⟨I.tb x, 1, none⟩) (World.block_lt_of_cell? w _ tk)).trans tk
      have HNx := hide hnext
      have hcw := hcell
      clear hcell hx hnext
      by_cases hkd : (K.obOf x).kind = 2
      · obtain ⟨ls, L, hL⟩ : ∃ ls L, K.obOf x = .term ls L := by
          cases ho : K.obOf x with
          | file _ => rw [ho] at hkd; simp [Ob.kind] at hkd
          | term ls L => exact ⟨ls, L, rfl⟩
          | pipe _ _ _ => rw [ho] at hkd; simp [Ob.kind] at hkd
        rw [hkd] at tk'
        have tn' := (HB.out.cell (p := ⟨I.tb x, 0, none⟩) (World.block_lt_of_cell? w _ tn)).trans tn
        have tf' := (HB.out.cell (p := ⟨I.tb x, 3, none⟩) (World.block_lt_of_cell? w _ (tf ls L hL))).trans (tf ls L hL)
        have hob := (HH.out.comp (.obj x)) hxt
        rw [← KS.obOf_eq hxt, hL] at hob
        obtain ⟨⟨la, lc, u, Bu, O1, hF, -⟩, hLl⟩ := hob
        have hLl' : L.length ≤ 1048576 := hLl.2.2
        obtain ⟨ua, uc, hu⟩ := owns_slice hF.scr
        have d0 : w.cell? ⟨I.ob x, 1, none⟩ = some u := hF.screen
        have hby := Bys.of_owns hF.scr
        rw [hu] at d0 hby
        have d0' := (HB.out.cell (p := ⟨I.ob x, 1, none⟩) (World.block_lt_of_cell? w _ d0)).trans d0
        have HNx2 : Hid (K.screensTo (k + 1) = K.screensTo k ++ [(K.nameOf x, L)]) := hide (by rw [HNx.out, hL]; rfl)
        obtain ⟨nm, hnm⟩ : ∃ nm, nm = K.nameOf x := ⟨_, rfl⟩
        rw [← hnm] at tn' HNx2
        have hS : ∀ w', Below w.heap.size w w' → w'.cell? ⟨I.kb, 0, none⟩ = some (.slice (some ⟨b, 0, none⟩) K.nm.length vc) ∧ w'.cell? ⟨b, k, none⟩ = some (.pointer (some ⟨I.tb x, 0, none⟩)) ∧ w'.cell? ⟨I.tb x, 0, none⟩ = some (.string nm) ∧ w'.cell? ⟨I.tb x, 3, none⟩ = some (.pointer (some ⟨I.ob x, 0, none⟩)) ∧ w'.cell? ⟨I.ob x, 1, none⟩ = some (.slice ua L.length uc) := fun w' hW => ⟨(hW.cell (p := ⟨I.kb, 0, none⟩) hkl).trans c1, (hW.cell (p := ⟨b, k, none⟩) (World.block_lt_of_cell? w _ hcw)).trans hcw, (hW.cell (p := ⟨I.tb x, 0, none⟩) (World.block_lt_of_cell? w _ tn)).trans (by rw [hnm]; exact tn), (hW.cell (p := ⟨I.tb x, 3, none⟩) (World.block_lt_of_cell? w _ (tf ls L hL))).trans (tf ls L hL), (hW.cell (p := ⟨I.ob x, 1, none⟩) (World.block_lt_of_cell? w _ d0)).trans d0⟩
        have hBd : Below w.heap.size w wr.drew := HB.out.drew
        obtain ⟨s1, w5, hrun1, HO5, hg5, -⟩ := run_append_bytes wr.drew 40 wr.heap.size (.slice none 0 0) (.slice ua L.length uc) [] L (World.ownsRow_nil _ _ _ _) (hby.below hBd) (by simp; omega) (Nat.le_refl _)
        obtain ⟨xa, xc, rfl⟩ := owns_slice HO5.out
        rw [List.nil_append] at HO5 hrun1
        have hB5r : Below wr.heap.size wr.drew w5 := (Below.refl _ wr.drew).grown hg5 (Nat.le_refl _) (fun k e => by cases e)
        have hB5 : Below w.heap.size w w5 := hBd.trans (hB5r.mono hsz)
        have hBa := recv_below w5 (Obj.cells #[.string nm, .slice xa L.length xc] 114)
        have hBA : Below w.heap.size w (w5.alloc (Obj.cells #[.string nm, .slice xa L.length xc] 114)) := hB5.trans (hBa.mono hB5.size)
        have hB5a : Below wr.heap.size wr.drew (w5.alloc (Obj.cells #[.string nm, .slice xa L.length xc] 114)) := hB5r.trans (hBa.mono hB5r.size)
        have HOa := hide (owns_below (W := wr.drew) HO.out hB5a)
        have HLa := hide (LCells.below (W := wr.drew) HL.out hB5a)
        have HUa := hide (owns_below HO5.out hBa)
        have hcu0 : (w5.alloc (Obj.cells #[.string nm, .slice xa L.length xc] 114)).cell? ⟨w5.heap.size, 0, none⟩ = some (.string nm) := by simp only [World.cell?, heap_alloc_new]; rfl
        have hcu1 : (w5.alloc (Obj.cells #[.string nm, .slice xa L.length xc] 114)).cell? ⟨w5.heap.size, 1, none⟩ = some (.slice xa L.length xc) := by simp only [World.cell?, heap_alloc_new]; rfl
        have hfe := screensTo_few K k
        obtain ⟨s', w7, hrun2, HO7, hg7, hb7⟩ := run_append_named (w5.alloc (Obj.cells #[.string nm, .slice xa L.length xc] 114)) 22 w.heap.size _ (K.screensTo k).length _ w5.heap.size 1 nm _ HOa.out hcu0 hcu1 rfl (by omega) (by have := hBA.size; omega)
        obtain ⟨sa', sc', rfl⟩ := owns_slice HO7.out
        have hB7 : Below w.heap.size w w7 := hBA.grown hg7 hBA.size (fun j e => (HOa.out.lt j e).1)
        have K0 := hS wr.drew hBd
        have K5 := hS w5 hB5
        have Ka := hS _ hBA
        have K7 := hS w7 hB7
        have HR1 := hide hrun1
        have HR2 := hide hrun2
        have HE : Hid (∃ us', w7.ownsRow w.heap.size 114 2 (.slice sa' ((K.screensTo k).length + 1) sc') (K.screensTo (k + 1)).length (ncs (K.screensTo (k + 1)) us') ∧ LCells w7 w.heap.size ((K.screensTo (k + 1)).map Prod.snd) us') := hide (by
          have hul := HL.out.1
          rw [List.length_map] at hul
          refine ⟨us ++ [.slice xa L.length xc], ?_, ?_⟩
          · rw [HNx2.out, ncs_snoc _ _ _ _ hul, List.length_append]
            exact HO7.out
          · have hLa : LCells w7 w.heap.size ((K.screensTo k).map Prod.snd) us := HLa.out.keep fun j hj v i h1 e => by
              obtain ⟨v', h2, h3⟩ := HLa.out.2.1 j hj
              rw [h1] at h2
              cases h2
              exact hg7.block i (h3.lt i e).2 (fun e' => Te_owns_apart h3 HOa.out (by decide) i e e'.symm)
            have hU7 := owns_keep (W' := w7) HUa.out fun i e => hg7.block i (HUa.out.lt i e).2 (fun e' => Te_owns_apart HUa.out HOa.out (by decide) i e e'.symm)
            have h9 : (K.screensTo k).length < ((K.screensTo (k + 1)).map Prod.snd).length := by rw [HNx2.out]; simp
            have h10 : (K.screensTo (k + 1)).map Prod.snd = ((K.screensTo (k + 1)).map Prod.snd).take ((K.screensTo k).length + 1) := by rw [List.take_of_length_le (by rw [HNx2.out]; simp)]
            have h11 : ((K.screensTo (k + 1)).map Prod.snd).take (K.screensTo k).length = (K.screensTo k).map Prod.snd := by rw [HNx2.out, List.map_append, List.take_append_of_le_length (by simp), List.take_of_length_le (by simp)]
            have h12 : ((K.screensTo (k + 1)).map Prod.snd)[(K.screensTo k).length] = L := by simp [HNx2.out]
            rw [h10]
            refine LCells.snoc h9 (by rw [h11]; exact hLa) _ ?_ (fun j v i h1 e e' => ?_)
            · rw [h12]
              exact owns_mono hU7 hsz
            · obtain ⟨v', h2, h3⟩ := HL.out.2.1 j (by have := (List.getElem?_eq_some_iff.1 h1).1; have := HL.out.1; omega)
              rw [h1] at h2
              cases h2
              have := (h3.lt i e).2
              have : wr.heap.size ≤ i := (HO5.out.lt i e').1
              omega)
        have HB7 := hide hB7
        have H0 := hide hS
        clear hS hBd hrun1 hrun2 hg5 hB5r hB5 hBa hBA hB5a hcu0 hcu1 hg7 hb7 hB7 hby hF d0 tf tn tk hcw hnm
        go_wp2_with fail
        go_region_held3 (fun w' => w'.cell? ⟨I.kb, 0, none⟩ = some (.slice (some ⟨b, 0, none⟩) K.nm.length vc) ∧ w'.cell? ⟨b, k, none⟩ = some (.pointer (some ⟨I.tb x, 0, none⟩)) ∧ w'.cell? ⟨I.tb x, 0, none⟩ = some (.string nm) ∧ w'.cell? ⟨I.tb x, 3, none⟩ = some (.pointer (some ⟨I.ob x, 0, none⟩)) ∧ w'.cell? ⟨I.ob x, 1, none⟩ = some (.slice ua L.length uc))
          (first | exact K7 | exact Ka | exact K5 | exact K0 | go_keep)
          (first
            | (refine step_append_run _ (by rfl) _ _ _ _ (by rfl) _ _ (by rfl) (by rfl) _ _ HR2.out ?_)
            | (refine step_append_run _ (by rfl) _ _ _ _ (by rfl) _ _ (by rfl) (by rfl) _ _ HR1.out ?_)
            | fail)
        all_goals
          go_wp2
          go_roundw
          case rel =>
            obtain ⟨us', h1, h2⟩ := HE.out
            exact ⟨k + 1, us', by go_num, by omega, hide h1, hide h2, HB7⟩
          case measure => simp [intOf]; omega
      · have hkd2 : ((K.obOf x).kind == 2) = false := by simpa using hkd
        have HNx2 : Hid (K.screensTo (k + 1) = K.screensTo k) := hide (by rw [HNx.out, if_neg (by simp [hkd])])
        go_wp2
        go_roundw
        case rel => exact ⟨k + 1, us, by go_num, by omega, by rw [HNx2.out]; exact HO, by rw [HNx2.out]; exact HL, HB⟩
        case measure => simp [intOf]; omega
    · obtain rfl : k = K.nm.length := by omega
      have HA : Hid (K.screensTo K.nm.length = K.screens) := hide (screensTo_all K)
      go_wp2
      go_ret
      rw [← HA.out]
      exact ⟨_, us, rfl, HO.out, HL.out, HB.out⟩
end Go.Proofs.YtanbiinomagdbaaGreat

/- The reference's kernel: Drop. -/
namespace Go.Proofs.YtanbiinomagdbaaGreat
open Go.RowKit

end Go.Proofs.YtanbiinomagdbaaGreat

/- The page's kernel of a setup. -/
namespace Go.Proofs.YtanbiinomagdbaaGreat
open Go.RowKit

end Go.Proofs.YtanbiinomagdbaaGreat

/- The reference's kernel within a set of blocks: what each call leaves of it, and of all else. -/
namespace Go.Proofs.YtanbiinomagdbaaGreat
open Go.RowKit

def RAt (w : World) (O : Nat → Prop) (kb : Nat) (K : KS) : Prop := ∃ (B : Nat → Prop) (ρ : Nat → Option Tag) (I : RI), RK w B ρ I K ∧ I.kb = kb ∧ ∀ k t, ρ k = some t → O k
def RKStep (w : World) (O : Nat → Prop) (kb : Nat) (K' : KS) (w' : World) : Prop := ∃ O', RAt w' O' kb K' ∧ (∀ k, O' k → O k ∨ w.heap.size ≤ k) ∧ Turned O w w'
theorem RAt.keep {w w' : World} {O : Nat → Prop} {kb : Nat} {K : KS} (h : RAt w O kb K) (hk : ∀ k, O k → k < w.heap.size → w'.heap[k]? = w.heap[k]?) (hs : w.heap.size ≤ w'.heap.size) : RAt w' O kb K := by
  obtain ⟨B, ρ, I, h1, h2, h3⟩ := h
  exact ⟨B, ρ, I, ⟨fun t => (h1.comp t).keep (fun k e hlt => hk k (h3 k t e) hlt) hs, fun k t e => ⟨(h1.lt k t e).1, Nat.lt_of_lt_of_le (h1.lt k t e).2 hs⟩, h1.ok, fun k e => h1.up k (Nat.le_trans hs e)⟩, h2, h3⟩
theorem RAt.below {w w' : World} {O : Nat → Prop} {kb : Nat} {K : KS} (h : RAt w O kb K) (hB : Below w.heap.size w w') : RAt w' O kb K := h.keep (fun k _ hlt => hB.block k hlt) hB.size
theorem RK.left {w w' : World} {O : Nat → Prop} {ρ ρ' : Nat → Option Tag} {I' : RI} {K' : KS} {kb : Nat} (hO : ∀ k t, ρ k = some t → O k) (h : RK w' (fun k => (∃ t, ρ k = some t) ∨ w.heap.size ≤ k) ρ' I' K') (hk : I'.kb = kb) (hT : Turned (fun k => (∃ t, ρ k = some t) ∨ w.heap.size ≤ k) w w') : RKStep w O kb K' w' :=
  ⟨fun k => O k ∨ w.heap.size ≤ k, ⟨_, ρ', I', h, hk, fun k t e => by
    rcases (h.lt k t e).1 with ⟨t', h1⟩ | h1
    · exact .inl (hO k t' h1)
    · exact .inr h1⟩, fun _ e => e, ⟨hT.1, hT.2, hT.3, hT.4, fun k hlt hn => hT.5 k hlt (fun e => by
    rcases e with ⟨t', h1⟩ | h1
    · exact hn (hO k t' h1)
    · omega)⟩⟩
theorem RAt.read {w : World} {O : Nat → Prop} {kb : Nat} {K : KS} (h : RAt w O kb K) (d n : Int) (hr : K.reads < 9223372036854775807) :
    Calls Tryz.prog 60 #[.pointer (some ⟨kb, 0, none⟩), .int .i64 d, .int .i64 n] w fun e w' => ∃ v, e = .returned (.tuple #[v, .int .i64 (K.read d n).2.1]) ∧ Bys w' v (K.read d n).1 ∧ RKStep w O kb (K.read d n).2.2 w' := by
  obtain ⟨B, ρ, I, h1, rfl, h3⟩ := h
  refine (rkread_any _ ρ I K d n w h1.own hr).mono ?_
  rintro e w' ⟨v, ρ', I', h4, h5, h6, h7, h8⟩
  exact ⟨v, h4, h5, RK.left h3 h6 h7 h8⟩
theorem RAt.seek {w : World} {O : Nat → Prop} {kb : Nat} {K : KS} (h : RAt w O kb K) (d off wh : Int) :
    Calls Tryz.prog 64 #[.pointer (some ⟨kb, 0, none⟩), .int .i64 d, .int .i64 off, .int .i64 wh] w fun e w' => e = .returned (.tuple #[.int .i64 (K.seek d off wh).1, .int .i64 (K.seek d off wh).2.1]) ∧ RKStep w O kb (K.seek d off wh).2.2 w' := by
  obtain ⟨B, ρ, I, h1, rfl, h3⟩ := h
  refine (rkseek_any _ ρ I K d off wh w h1.own).mono ?_
  rintro e w' ⟨ρ', I', h4, h6, h7, h8⟩
  exact ⟨h4, RK.left h3 h6 h7 h8⟩
theorem RAt.open {w : World} {O : Nat → Prop} {kb : Nat} {K : KS} (h : RAt w O kb K) (s : ByteArray) (flags : Int) (hnm : KNm K) (hs : s.size ≤ maxLen) (hn1 : 1 ≤ K.next) (hn : K.next < 9223372036854775807) :
    Calls Tryz.prog 56 #[.pointer (some ⟨kb, 0, none⟩), .string s, .int .i64 flags] w fun e w' => e = .returned (.tuple #[.int .i64 (K.open s flags).1, .int .i64 (K.open s flags).2.1]) ∧ RKStep w O kb (K.open s flags).2.2 w' := by
  obtain ⟨B, ρ, I, h1, rfl, h3⟩ := h
  refine (rkopen_any _ ρ I K s flags w h1.own hnm hs hn1 hn).mono ?_
  rintro e w' ⟨ρ', I', h4, h6, h7, h8⟩
  exact ⟨h4, RK.left h3 h6 h7 h8⟩
theorem RAt.of_page {w w' : World} {B : Nat → Prop} {ρ : Nat → Option Tag} {I : RI} {K : KS} (hB : ∀ k, B k → w.heap.size ≤ k) (h : RK w' B ρ I K) : RAt w' (fun k => w.heap.size ≤ k) I.kb K := ⟨B, ρ, I, h, rfl, fun k t e => hB k (h.lt k t e).1⟩
end Go.Proofs.YtanbiinomagdbaaGreat

/- The program's kernel and the reference's, side by side. -/
namespace Go.Proofs.YtanbiinomagdbaaGreat
open Go.RowKit

theorem RAt.trim {w : World} {O : Nat → Prop} {kb : Nat} {K : KS} (h : RAt w O kb K) : RAt w (fun k => O k ∧ k < w.heap.size) kb K := by
  obtain ⟨B, ρ, I, h1, h2, h3⟩ := h
  exact ⟨B, ρ, I, h1, h2, fun k t e => ⟨h3 k t e, (h1.lt k t e).2⟩⟩
end Go.Proofs.YtanbiinomagdbaaGreat

/- What the kernel's Read and Write tell, as values: at most what was asked, and nothing beside an error. -/
namespace Go.Proofs.YtanbiinomagdbaaGreat
open Go.RowKit Go.Maps

end Go.Proofs.YtanbiinomagdbaaGreat

/- KernPlays: a call by both. -/
namespace Go.Proofs.YtanbiinomagdbaaGreat
open Go.RowKit Go.Maps

structure StIn (B : Nat) (W : World) (x : KSt) (va : Option Addr) (vc : Nat) : Prop where
  by' : Bys W (.slice va x.data.length vc) x.data
  cap : x.data.length ≤ vc
  name : x.name.size ≤ maxLen
  a : I64 x.a
  b : I64 x.b
  c : I64 x.c
  few : x.data.length ≤ 140737488351232
  low : 0 < x.data.length → ∀ k, (Value.slice va x.data.length vc).ownBlock = some k → k < B
theorem drew_cell {w : World} {p : Addr} {v : Value} (h : w.cell? p = some v) : w.drew.cell? p = some v := h
theorem rk_cell {w w' : World} {O : Nat → Prop} {kb : Nat} {K : KS} {g j : Nat} {v : Value} (h : RKStep w O kb K w') (hc : w.cell? ⟨g, j, none⟩ = some v) (hO : ¬ O g) : w'.cell? ⟨g, j, none⟩ = some v := by
  obtain ⟨_, _, _, hT⟩ := h
  exact cell_keep hT hc hO
end Go.Proofs.YtanbiinomagdbaaGreat

/- KernPlays: Read and Write by both. -/
namespace Go.Proofs.YtanbiinomagdbaaGreat
open Go.RowKit Go.Maps

theorem rkwrite_any0 (B : Nat → Prop) (ρ : Nat → Option Tag) (I : RI) (K : KS) (d : Int) (b : List UInt8) (a1 : Option Addr) (cx : Nat) (w : World) (h : RK w B ρ I K) (hr : K.writes < 9223372036854775807) (hb : Bys w (.slice a1 b.length cx) b) (hcap : b.length ≤ cx) (hap : 0 < b.length → ∀ k, (Value.slice a1 b.length cx).ownBlock = some k → ¬ B k) :
    Calls Tryz.prog 62 #[.pointer (some ⟨I.kb, 0, none⟩), .int .i64 d, .slice a1 b.length cx] w (RKNum w B I.kb (K.write d b)) := by
  cases hx : K.find d with
  | none => exact rkwrite_head B ρ I K d b a1 cx w h (.inl hx)
  | some x =>
    by_cases hh : fbit x.flags 2 = 0 ∨ 1048576 < b.length ∨ b.length = 0
    · exact rkwrite_head B ρ I K d b a1 cx w h (.inr ⟨x, hx, hh⟩)
    · have h1 : fbit x.flags 2 ≠ 0 := fun e => hh (.inl e)
      have h2 : ¬ 1048576 < b.length := fun e => hh (.inr (.inl e))
      have h3 : ¬ b.length = 0 := fun e => hh (.inr (.inr e))
      exact rkwrite_any B ρ I K d b a1 cx w h hr hb hcap (hap (by omega))
theorem RAt.write0 {w : World} {O : Nat → Prop} {kb : Nat} {K : KS} (h : RAt w O kb K) (d : Int) (b : List UInt8) (a1 : Option Addr) (cx : Nat) (hr : K.writes < 9223372036854775807) (hb : Bys w (.slice a1 b.length cx) b) (hcap : b.length ≤ cx) (hap : 0 < b.length → ∀ k, (Value.slice a1 b.length cx).ownBlock = some k → k < w.heap.size ∧ ¬ O k) :
    Calls Tryz.prog 62 #[.pointer (some ⟨kb, 0, none⟩), .int .i64 d, .slice a1 b.length cx] w fun e w' => e = .returned (.tuple #[.int .i64 (K.write d b).1, .int .i64 (K.write d b).2.1]) ∧ RKStep w O kb (K.write d b).2.2 w' := by
  obtain ⟨B, ρ, I, h1, rfl, h3⟩ := h
  refine (rkwrite_any0 _ ρ I K d b a1 cx w h1.own hr hb hcap (fun h0 k e e' => by
    rcases e' with ⟨t', h4⟩ | h4
    · exact (hap h0 k e).2 (h3 k t' h4)
    · have := (hap h0 k e).1; omega)).mono ?_
  rintro e w' ⟨ρ', I', h4, h6, h7, h8⟩
  exact ⟨h4, RK.left h3 h6 h7 h8⟩
end Go.Proofs.YtanbiinomagdbaaGreat

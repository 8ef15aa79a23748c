/- What the proof stands on, part 13: the contracts of the program's calls that it reaches. -/
import Derived.Test.YtknpghmcacocfaaKM12
import Derived.Test.YtknpghmcacocfaaRows
import Derived.Shelf.SlIter.Nil
import Derived.Shelf.SortM.Plain
import Derived.Shelf.SortM.SortNone
import Derived.Ground.GgzProg
import Derived.Ground.SlgmProg
import Derived.Test.YtknpghmcacocfaaProg
/- Contracts of Go's library on the keys of a map, sorted, at this dump, laid by the kit's own command. -/
namespace Go.Proofs
open Go.RowKit Go.Maps Go.Sort Go.Shelf
def Try.keys54_ren : Go.Shelf.Ren := ⟨fun | 7 => 54 | 10 => 73 | n => n, fun | 23 => 72 | 26 => 9 | 3 => 78 | 28 => 132 | 0 => 0 | 27 => 131 | 33 => 91 | 4 => 4 | n => n, fun | n => n⟩
theorem Try.keys54 : Go.Proofs.SlLaysZ.n7 Try.prog Try.keys54_ren := {
  mixed := by kernel_rfl
  f7 := ⟨Try.f54.name, by decide, Try.func54.trans (congrArg some (by kernel_rfl))⟩
  f10 := ⟨Try.f73.name, by decide, Try.func73.trans (congrArg some (by kernel_rfl))⟩
  t0 := Try.underlying0
  a0 := Try.isAgg0
  z0 := Try.sizeOf0
  v0 := Try.zeroValue0
  t4 := Try.underlying4
  a4 := Try.isAgg4
  z4 := Try.sizeOf4
  v4 := Try.zeroValue4
  t23 := Try.underlying72
  a23 := Try.isAgg72
  z23 := Try.sizeOf72
  v23 := Try.zeroValue72
  t26 := Try.underlying9
  a26 := Try.isAgg9
  z26 := Try.sizeOf9
  v26 := Try.zeroValue9
  t27 := Try.underlying131
  a27 := Try.isAgg131
  z27 := Try.sizeOf131
  v27 := Try.zeroValue131
  t28 := Try.underlying132
  a28 := Try.isAgg132
  z28 := Try.sizeOf132
  v28 := Try.zeroValue132
  t33 := Try.underlying91
  a33 := Try.isAgg91
  z33 := Try.sizeOf91
  v33 := Try.zeroValue91 }
def Try.sorted53_ren : Go.Shelf.Ren := ⟨fun | 6 => 53 | 8 => 71 | 9 => 72 | 11 => 81 | 13 => 83 | 12 => 82 | 23 => 93 | 24 => 94 | 14 => 84 | 15 => 85 | 16 => 86 | 17 => 87 | 18 => 88 | 19 => 89 | 20 => 90 | 21 => 91 | 22 => 92 | 25 => 95 | 26 => 96 | 27 => 97 | 28 => 98 | 29 => 99 | 30 => 100 | 31 => 101 | n => n, fun | 26 => 9 | 28 => 132 | 24 => 129 | 0 => 0 | 3 => 3 | 37 => 171 | 48 => 182 | 50 => 184 | 4 => 4 | 40 => 174 | 39 => 173 | 45 => 179 | 5 => 5 | 9 => 9 | 51 => 185 | 55 => 154 | 57 => 190 | 58 => 191 | 33 => 91 | n => n, fun | n => n⟩
theorem Try.sorted53 : Go.Proofs.SlLaysZ.n6 Try.prog Try.sorted53_ren := {
  mixed := by kernel_rfl
  f6 := ⟨Try.f53.name, by decide, Try.func53.trans (congrArg some (by kernel_rfl))⟩
  f8 := ⟨Try.f71.name, by decide, Try.func71.trans (congrArg some (by kernel_rfl))⟩
  f11 := ⟨Try.f81.name, by decide, Try.func81.trans (congrArg some (by kernel_rfl))⟩
  t0 := Try.underlying0
  a0 := Try.isAgg0
  z0 := Try.sizeOf0
  v0 := Try.zeroValue0
  t24 := Try.underlying129
  a24 := Try.isAgg129
  z24 := Try.sizeOf129
  v24 := Try.zeroValue129
  t26 := Try.underlying9
  a26 := Try.isAgg9
  z26 := Try.sizeOf9
  v26 := Try.zeroValue9
  t28 := Try.underlying132
  a28 := Try.isAgg132
  z28 := Try.sizeOf132
  v28 := Try.zeroValue132
  i26 := by kernel_rfl }
def Try.sort72_ren : Go.Shelf.Ren := ⟨fun | 6 => 72 | 8 => 83 | 9 => 82 | 19 => 93 | 20 => 94 | 21 => 84 | 22 => 85 | 23 => 86 | 24 => 87 | 25 => 88 | 26 => 89 | 27 => 90 | 28 => 91 | 29 => 92 | 36 => 95 | 31 => 96 | 32 => 97 | 37 => 98 | 38 => 99 | 39 => 100 | 41 => 101 | n => n, fun | 27 => 129 | 29 => 9 | 3 => 3 | 32 => 171 | 26 => 129 | 0 => 0 | 44 => 182 | 46 => 184 | 4 => 4 | 36 => 174 | 35 => 173 | 41 => 179 | 5 => 5 | 9 => 9 | 53 => 185 | 57 => 154 | 63 => 190 | 64 => 191 | n => n, fun | n => n⟩
theorem Try.sort72 : Go.Proofs.SlLaysM.n6 Try.prog Try.sort72_ren := {
  mixed := by kernel_rfl
  f6 := ⟨Try.f72.name, by decide, Try.func72.trans (congrArg some (by kernel_rfl))⟩
  f8 := Try.func83.trans (congrArg some (by kernel_rfl))
  f9 := ⟨Try.f82.name, by decide, Try.func82.trans (congrArg some (by kernel_rfl))⟩
  f19 := Try.func93.trans (congrArg some (by kernel_rfl))
  f20 := Try.func94.trans (congrArg some (by kernel_rfl))
  f21 := ⟨Try.f84.name, by decide, Try.func84.trans (congrArg some (by kernel_rfl))⟩
  f22 := ⟨Try.f85.name, by decide, Try.func85.trans (congrArg some (by kernel_rfl))⟩
  f23 := ⟨Try.f86.name, by decide, Try.func86.trans (congrArg some (by kernel_rfl))⟩
  f24 := ⟨Try.f87.name, by decide, Try.func87.trans (congrArg some (by kernel_rfl))⟩
  f25 := ⟨Try.f88.name, by decide, Try.func88.trans (congrArg some (by kernel_rfl))⟩
  f26 := ⟨Try.f89.name, by decide, Try.func89.trans (congrArg some (by kernel_rfl))⟩
  f27 := ⟨Try.f90.name, by decide, Try.func90.trans (congrArg some (by kernel_rfl))⟩
  f28 := ⟨Try.f91.name, by decide, Try.func91.trans (congrArg some (by kernel_rfl))⟩
  f29 := ⟨Try.f92.name, by decide, Try.func92.trans (congrArg some (by kernel_rfl))⟩
  f31 := Try.func96.trans (congrArg some (by kernel_rfl))
  f32 := Try.func97.trans (congrArg some (by kernel_rfl))
  f36 := ⟨Try.f95.name, by decide, Try.func95.trans (congrArg some (by kernel_rfl))⟩
  f37 := ⟨Try.f98.name, by decide, Try.func98.trans (congrArg some (by kernel_rfl))⟩
  f38 := ⟨Try.f99.name, by decide, Try.func99.trans (congrArg some (by kernel_rfl))⟩
  f39 := ⟨Try.f100.name, by decide, Try.func100.trans (congrArg some (by kernel_rfl))⟩
  f41 := ⟨Try.f101.name, by decide, Try.func101.trans (congrArg some (by kernel_rfl))⟩
  t0 := Try.underlying0
  a0 := Try.isAgg0
  z0 := Try.sizeOf0
  v0 := Try.zeroValue0
  t3 := Try.underlying3
  a3 := Try.isAgg3
  z3 := Try.sizeOf3
  v3 := Try.zeroValue3
  t4 := Try.underlying4
  a4 := Try.isAgg4
  z4 := Try.sizeOf4
  v4 := Try.zeroValue4
  t5 := Try.underlying5
  a5 := Try.isAgg5
  z5 := Try.sizeOf5
  v5 := Try.zeroValue5
  t9 := Try.underlying9
  a9 := Try.isAgg9
  z9 := Try.sizeOf9
  v9 := Try.zeroValue9
  t26 := Try.underlying129
  a26 := Try.isAgg129
  z26 := Try.sizeOf129
  v26 := Try.zeroValue129
  t27 := Try.underlying129
  a27 := Try.isAgg129
  z27 := Try.sizeOf129
  v27 := Try.zeroValue129
  t29 := Try.underlying9
  a29 := Try.isAgg9
  z29 := Try.sizeOf9
  v29 := Try.zeroValue9
  t32 := Try.underlying171
  a32 := Try.isAgg171
  z32 := Try.sizeOf171
  v32 := Try.zeroValue171
  t35 := Try.underlying173
  a35 := Try.isAgg173
  z35 := Try.sizeOf173
  v35 := Try.zeroValue173
  t36 := Try.underlying174
  a36 := Try.isAgg174
  z36 := Try.sizeOf174
  v36 := Try.zeroValue174
  t41 := Try.underlying179
  a41 := Try.isAgg179
  z41 := Try.sizeOf179
  v41 := Try.zeroValue179
  t44 := Try.underlying182
  a44 := Try.isAgg182
  z44 := Try.sizeOf182
  v44 := Try.zeroValue182
  t46 := Try.underlying184
  a46 := Try.isAgg184
  z46 := Try.sizeOf184
  v46 := Try.zeroValue184
  t53 := Try.underlying185
  a53 := Try.isAgg185
  z53 := Try.sizeOf185
  v53 := Try.zeroValue185
  t57 := Try.underlying154
  a57 := Try.isAgg154
  z57 := Try.sizeOf154
  v57 := Try.zeroValue154
  t63 := Try.underlying190
  a63 := Try.isAgg190
  z63 := Try.sizeOf190
  v63 := Try.zeroValue190
  t64 := Try.underlying191
  a64 := Try.isAgg191
  z64 := Try.sizeOf191
  v64 := Try.zeroValue191 }

theorem Try.sorts53 (m : Nat) : AnyZ.SortsIn Try.prog Try.sorted53_ren Fence.wide m :=
  ⟨fun blk off cap ss W hH hblk hsz => callsIn_wide.2 (AnyM.slices_Sort_string Try.sort72 blk off cap ss W hH hblk hsz),
   fun p cap W => callsIn_wide.2 (AnyM.slices_Sort_string_none Try.sort72 p cap W)⟩
theorem Try.maps_Keys_54 (mb : Option Nat) (W : World) : CallsIn Fence.wide 5 Try.prog 54 #[.map mb] W fun e w' => e = .returned (.func (.func 73) #[] #[.pointer (some ⟨W.heap.size, 0, none⟩)]) ∧ w' = W.alloc (.cells #[.map mb] 72) :=
  AnyZ.keys_in Try.keys54 Fence.wide 5 trivial rfl mb W
set_option maxHeartbeats 1000000 in
theorem Try.slices_Sorted_keys_53_54 {H : Type} (b nn : Nat) (D0 : DataW H) (R : Value → Option (DataW H × List MemPlace)) (w : World) (hown : w.ownsMap Try.prog 9 R b nn D0) (hmax : Maps.size D0 ≤ maxLen) (hbytes : Maps.size D0 * 16 ≤ 140737488355328) :
    CallsIn Fence.wide 5 Try.prog 53 #[.func (.func 73) #[] #[.pointer (some ⟨w.heap.size, 0, none⟩)]] (w.alloc (.cells #[.map (some b)] 72)) fun e w' => ∃ (v : Value) (ss : List (List UInt8)), e = .returned v ∧ ss.Perm (strKeys D0) ∧
      w'.ownsRow (w.alloc (.cells #[.map (some b)] 72)).heap.size 9 1 v ss.length ((ss.mergeSort (fun x y => decide (x ≤ y))).map encStr) ∧ (v = .slice none 0 0 ↔ ss = []) ∧ Below (w.alloc (.cells #[.map (some b)] 72)).heap.size (w.alloc (.cells #[.map (some b)] 72)) w' := by
  have hbl := hown.lt
  have hseq : SeqGives Fence.wide 2 Try.prog 73 #[.pointer (some ⟨w.heap.size, 0, none⟩)] encStr (fun ss => ss.Perm (strKeys D0)) (Maps.size D0) (w.alloc (.cells #[.map (some b)] 72)) :=
    AnyZ.keys_gives (ρ := Try.keys54_ren) { Try.keys54 with } Fence.wide _ trivial rfl (by omega) w.heap.size b nn D0 _ (by simp) (by simp) (by
      obtain ⟨es, clock, hb, Ft, hs, hD⟩ := hown
      exact ⟨es, clock, (Below.heap_alloc _ _ b hbl).trans hb, Ft, hs, hD⟩)
  exact AnyZ.sorted_in Try.sorted53 Fence.wide 5 trivial trivial trivial trivial rfl (by omega) (Try.sorts53 _) (enters_of Try.func72 (by kernel_rfl) rfl) 73 #[.pointer (some ⟨w.heap.size, 0, none⟩)] trivial (enters_of Try.func73 (by kernel_rfl) rfl) _ _ hmax hbytes _ hseq
set_option maxHeartbeats 1000000 in
theorem Try.slices_Sorted_keys_nil_53_54 (w : World) :
    CallsIn Fence.wide 5 Try.prog 53 #[.func (.func 73) #[] #[.pointer (some ⟨w.heap.size, 0, none⟩)]] (w.alloc (.cells #[.map none] 72)) fun e w' => ∃ (v : Value) (ss : List (List UInt8)), e = .returned v ∧ ss = [] ∧
      w'.ownsRow (w.alloc (.cells #[.map none] 72)).heap.size 9 1 v ss.length ((ss.mergeSort (fun x y => decide (x ≤ y))).map encStr) ∧ (v = .slice none 0 0 ↔ ss = []) ∧ Below (w.alloc (.cells #[.map none] 72)).heap.size (w.alloc (.cells #[.map none] 72)) w' := by
  have hseq : SeqGives Fence.wide 2 Try.prog 73 #[.pointer (some ⟨w.heap.size, 0, none⟩)] encStr (fun ss : List (List UInt8) => ss = []) 0 (w.alloc (.cells #[.map none] 72)) :=
    AnyZ.keys_gives_nil (ρ := Try.keys54_ren) { Try.keys54 with } Fence.wide _ trivial rfl w.heap.size _ (by simp) (by simp)
  exact AnyZ.sorted_in Try.sorted53 Fence.wide 5 trivial trivial trivial trivial rfl (by omega) (Try.sorts53 _) (enters_of Try.func72 (by kernel_rfl) rfl) 73 #[.pointer (some ⟨w.heap.size, 0, none⟩)] trivial (enters_of Try.func73 (by kernel_rfl) rfl) _ 0 (Nat.zero_le _) (by omega) _ hseq
end Go.Proofs

/- Files: all files by name. -/
namespace Go.Proofs.Ytknpghmcacocfaa
open Go.RowKit Go.Maps

/-- A file's bytes. -/
def Ob.bytes : Ob → List UInt8
  | .file b => b
  | _ => []
/-- All files, by name. -/
def KS.files (K : KS) : List Nm := K.fidx.map fun i => (K.nameOf i, (K.obOf i).bytes)
def fnames (K : KS) : List (List UInt8) := K.fidx.map fun i => (K.nameOf i).data.toList
theorem fnames_sorted {K : KS} (h : KNm K) : (fnames K).Pairwise (fun a b => leB a b = true) := by
  unfold fnames KS.fidx
  refine List.pairwise_map.2 ?_
  refine ((h.sorted.filter _).imp fun {a b} hab => ?_)
  exact decide_eq_true (List.le_of_lt hab)
theorem keys_are {K : KS} (h : KNm K) {ss : List (List UInt8)} (hp : ss.Perm (fnames K)) : ss.mergeSort (fun x y => decide (x ≤ y)) = fnames K := by
  show ss.mergeSort leB = _
  rw [mergeSort_of_perm hp]
  exact List.mergeSort_of_pairwise (fnames_sorted h)
theorem fl_strs (K : KS) (I : PI) : ((K.fl I).map fun p => strOf p.1) = fnames K := by
  unfold KS.fl fnames
  rw [List.map_map]
  rfl
theorem sorted_any {w : World} {ρ : Nat → Option PTag} {I : PI} {K : KS} (h : PK w ρ I K) :
    Calls Try.prog 53 #[.func (.func 73) #[] #[.pointer (some ⟨w.heap.size, 0, none⟩)]] (w.alloc (.cells #[.map (some I.fm)] 72)) fun e w' => ∃ v, e = .returned v ∧ w'.ownsRow (w.alloc (.cells #[.map (some I.fm)] 72)).heap.size 9 1 v (fnames K).length ((fnames K).map encStr) ∧ Below (w.alloc (.cells #[.map (some I.fm)] 72)).heap.size (w.alloc (.cells #[.map (some I.fm)] 72)) w' := by
  obtain ⟨D, h1, h2, h3⟩ := (h.comp .fmap).1.keys skeyed Try.underlying9
  have hfew : (K.fl I).length ≤ 256 := by
    have := h.ok.named
    have h4 : (K.fl I).length ≤ K.nm.length := by unfold KS.fl KS.fidx; simpa using List.length_filter_le _ _
    omega
  rw [fl_strs] at h3
  refine (callsIn_wide.1 (Try.slices_Sorted_keys_53_54 I.fm _ D ptrElem w h1 (by unfold maxLen; omega) (by omega))).mono ?_
  rintro e w' ⟨v, ss, rfl, hS, hrow, -, hb⟩
  have hp := hS.trans h3
  rw [keys_are h.nm hp, hp.length_eq] at hrow
  exact ⟨v, rfl, hrow, hb⟩
theorem kbytes_any (O : Nat → Prop) (p : Nat) (b : List UInt8) (w : World) (h : PObj w O p (.file b)) :
    Calls Try.prog 55 #[.pointer (some ⟨p, 0, none⟩)] w fun e w' => ∃ v, e = .returned v ∧ w'.ownsRow w.heap.size 5 1 v b.length (b.map bv) ∧ Below w.heap.size w w' :=
  (po_fbytes O p b w h).mono fun _ _ ⟨a, b, c⟩ => ⟨_, a, b, c⟩
theorem name_few {s : ByteArray} (h : nameOk s = true) : s.size ≤ 64 := by
  unfold nameOk at h
  simp only [Bool.and_eq_true, decide_eq_true_eq] at h
  exact h.2.1
theorem file_at {K : KS} (h : KOk K) {k : Nat} (hk : k < (fnames K).length) : ∃ i L, i ∈ K.nm ∧ i < K.th.length ∧ K.obOf i = .file L ∧ (fnames K)[k]? = some (K.nameOf i).data.toList ∧ K.files[k]? = some (K.nameOf i, L) := by
  have hk' : k < K.fidx.length := by simpa [fnames] using hk
  have hm := List.mem_filter.1 (List.getElem_mem hk')
  have hkind : (K.obOf K.fidx[k]).kind = 1 := by simpa using hm.2
  cases ho : K.obOf K.fidx[k] with
  | file L =>
    refine ⟨K.fidx[k], L, hm.1, h.nm _ hm.1, ho, ?_, ?_⟩
    · simp [fnames, hk']
    · simp [KS.files, hk', ho, Ob.bytes]
  | term ls scr => rw [ho] at hkind; cases hkind
  | pipe q rd wt => rw [ho] at hkind; cases hkind
theorem names_cell {W : World} {va : Option Addr} {vc N k : Nat} {ns : List (List UInt8)} {s : ByteArray} (h : W.ownsRow 0 9 1 (.slice va N vc) N (ns.map encStr)) (hk : k < N) (hs : ns[k]? = some s.data.toList) : ∃ vb, va = some ⟨vb, 0, none⟩ ∧ W.cell? ⟨vb, k, none⟩ = some (.string s) := by
  have hx := h
  rcases h.2 with ⟨e, _⟩ | ⟨g, cap, cur, e, _⟩
  · simp only [Value.slice.injEq] at e; omega
  · simp only [Value.slice.injEq] at e
    obtain ⟨rfl, _, rfl⟩ := e
    refine ⟨g, rfl, ?_⟩
    rw [hx.cellAt k (by omega), List.getElem?_map, hs]
    simp [encStr]
theorem kkeys_any (mb : Option Nat) (W : World) : Calls Try.prog 54 #[.map mb] W fun e w' => e = .returned (.func (.func 73) #[] #[.pointer (some ⟨W.heap.size, 0, none⟩)]) ∧ w' = W.alloc (.cells #[.map mb] 72) := callsIn_wide.1 (Try.maps_Keys_54 mb W)
set_option maxRecDepth 100000 in
set_option maxHeartbeats 4000000 in
theorem kfiles_any (ρ : Nat → Option PTag) (I : PI) (K : KS) (w : World) (h : PK w ρ I K) :
    Calls Try.prog 28 #[.pointer (some ⟨I.kb, 0, none⟩)] w fun e w' => ∃ v us, e = .returned v ∧ w'.ownsRow w.heap.size 30 2 v K.files.length (ncs K.files us) ∧ LCells w' w.heap.size (K.files.map Prod.snd) us ∧ Below w.heap.size w w' := by
  have H := hide h
  have c0 := h.cells.made
  have c1 := h.cells.files
  have sl := (h.comp .fmap).1.len Try.underlying72
  have hflen : (K.fl I).length = (fnames K).length := by simp [KS.fl, fnames]
  obtain ⟨N, hN⟩ : ∃ N, N = (fnames K).length := ⟨_, rfl⟩
  rw [hflen, ← hN] at sl
  have HN := hide hN
  have HN9 : Hid (N ≤ 256) := hide (by
    have := h.ok.named
    have h4 : (K.fl I).length ≤ K.nm.length := by unfold KS.fl KS.fidx; simpa using List.length_filter_le _ _
    omega)
  obtain ⟨i0, hi, hz0, hz1, hz2⟩ := info_parts Try.infoN
  clear h hflen hN
  go_enter Try.func28, Try.ntmps28
  go_wp2_with fail
  refine (kmade_any I.kb w c0).mono ?_
  rintro e w1 ⟨rfl, rfl⟩
  go_wp2_with (at_make; refine wpList_make_own _ rfl _ _ 31 rfl w1.heap.size 30 i0 (.agg #[.string ByteArray.empty, .slice none 0 0]) 2 Try.underlying31 hi hz0 hz1 _ _ _ N rfl rfl rfl (by rw [hz2]; have := HN9.out; omega) (by have := HN9.out; unfold maxLen; omega) (Nat.le_refl _) ?_; intro w2 hown2 hgrow2; have HO2 := hide hown2; have HB2 : Hid (Below w1.heap.size w1 w2) := hide ((Below.refl _ w1).grown hgrow2 (Nat.le_refl _) (fun k e => by cases e)); have H2 := hide (H.out.under HB2.out); have c2 := H2.out.cells.files; clear hown2 hgrow2 c0 c1 sl)
  refine (kkeys_any _ _).mono ?_
  rintro _ _ ⟨rfl, rfl⟩
  go_wp2_with fail
  refine (sorted_any H2.out).mono ?_
  rintro e w3 ⟨v, rfl, hrow, hB3⟩
  obtain ⟨va, vc, rfl⟩ := owns_slice hrow
  have HRow := hide (owns_mono hrow (Nat.zero_le _))
  rw [← HN.out] at HRow ⊢
  have HB3 : Hid (Below w1.heap.size w1 w3) := hide (HB2.out.trans (((recv_below w2 _).trans (hB3.mono (recv_below w2 _).size)).mono HB2.out.size))
  have HO3 := hide (owns_below HO2.out ((recv_below w2 _).trans (hB3.mono (recv_below w2 _).size)))
  clear hrow hB3 c2
  go_wp2_with fail
  go_loopw [3, 22] (fun ov i wr => ∃ (k : Nat) (us : List Value), k ≤ N ∧ i = .int .i64 k ∧ Hid (wr.ownsRow w1.heap.size 30 2 ov k (ncs (K.files.take k) us)) ∧ Hid (LCells wr w1.heap.size ((K.files.take k).map Prod.snd) us) ∧ Hid (wr.ownsRow 0 9 1 (.slice va N vc) N ((fnames K).map encStr)) ∧ Hid (Below w1.heap.size w1 wr)) (fun _ i _ => N - (intOf i).toNat)
  case atStart => exact ⟨0, [], Nat.zero_le _, rfl, HO3, hide ⟨rfl, (fun j hj => by simp at hj), (fun i j vi vj m _ h1 => by simp at h1)⟩, HRow, HB3⟩
  case round =>
    obtain ⟨k, us, hk, rfl, HO, HL, HRw, HB⟩ := hrel
    obtain ⟨oa, oc, rfl⟩ := owns_slice HO.out
    clear HO3 HRow HB3 HO2 HB2 H2
    by_cases hlt : k < N
    · obtain ⟨i, L, hmem, hith, hobi, hfn, hfile⟩ := file_at H.out.ok (k := k) (by rw [← HN.out]; exact hlt)
      have hH := H.out.under HB.out
      have hHd := hH
      have hsz : (K.nameOf i).size ≤ maxLen := by have := name_few (H.out.nm.ok i hmem); unfold maxLen; omega
      have hlk := look_file hHd hsz hmem rfl (by rw [hobi]; rfl) false
      simp only [Bool.false_eq_true, if_false] at hlk
      have HOb : Hid (PObj wr (fun k => ρ k = some (.obj i)) (I.ob i) (.file L)) := hide (by have := hHd.comp (.obj i) hith; rw [← KS.obOf_eq hith, hobi] at this; exact this)
      have hc1 := hH.cells.files
      have hkb : I.kb < wr.heap.size := World.block_lt_of_cell? wr _ hc1
      have hkw : I.kb < w1.heap.size := World.block_lt_of_cell? w1 _ H.out.cells.files
      obtain ⟨vb, rfl, hcell⟩ := names_cell HRw.out hlt hfn
      have hk1 : (0 : Int) ≤ (k : Int) := by omega
      have hk2 : (k : Int) < (N : Int) := by omega
      have hNs := HN9.out
      have hBs := HB.out.size
      have hul := HL.out.1
      simp only [List.length_map, List.length_take] at hul
      have hkf : k < K.files.length := (List.getElem?_eq_some_iff.1 hfile).1
      rw [Nat.min_eq_left (by omega)] at hul
      have hl4 : L.length ≤ 1048576 := HOb.out.1
      have HPk := hide hfile
      generalize K.nameOf i = nm at *
      clear hfn hobi hH hHd hfile hsz
      go_wp2_with fail
      refine (kbytes_any _ (I.ob i) L _ HOb.out).mono ?_
      rintro e w4 ⟨u, rfl, hownu, hB4⟩
      obtain ⟨ua, uc, rfl⟩ := owns_slice hownu
      have hz4 : wr.heap.size ≤ w4.heap.size := hB4.size
      have hB04 : Below w1.heap.size w1 w4 := HB.out.trans (hB4.mono HB.out.size)
      have K4 : w4.cell? ⟨I.kb, 1, none⟩ = some (.map (some I.fm)) := (hB4.cell (p := ⟨I.kb, 1, none⟩) hkb).trans hc1
      have hBa : Below w4.heap.size w4 (w4.alloc (Obj.cells #[.string nm, .slice ua L.length uc] 30)) := (Below.refl _ _).alloc (Nat.le_refl _) _
      have Ka : (w4.alloc (Obj.cells #[.string nm, .slice ua L.length uc] 30)).cell? ⟨I.kb, 1, none⟩ = some (.map (some I.fm)) := (hBa.cell (p := ⟨I.kb, 1, none⟩) (Nat.lt_of_lt_of_le hkb hz4)).trans K4
      have hB0a := hB04.trans (hBa.mono hB04.size)
      have hB4a := hB4.trans (hBa.mono hB4.size)
      have HOa := hide (owns_below (W := wr) HO.out hB4a)
      have HLa := hide (LCells.below (W := wr) HL.out hB4a)
      have HUa := hide (owns_below hownu hBa)
      have hcu0 : (w4.alloc (Obj.cells #[.string nm, .slice ua L.length uc] 30)).cell? ⟨w4.heap.size, 0, none⟩ = some (.string nm) := (by simp only [World.cell?, heap_alloc_new]; rfl)
      have hcu1 : (w4.alloc (Obj.cells #[.string nm, .slice ua L.length uc] 30)).cell? ⟨w4.heap.size, 1, none⟩ = some (.slice ua L.length uc) := (by simp only [World.cell?, heap_alloc_new]; rfl)
      have hza := size_new w4 (Obj.cells #[.string nm, .slice ua L.length uc] 30)
      obtain ⟨s', w7, hrun, HO7, hg7, hb7⟩ := run_append_named (w4.alloc (Obj.cells #[.string nm, .slice ua L.length uc] 30)) 31 w1.heap.size _ k _ w4.heap.size 1 nm _ HOa.out hcu0 hcu1 rfl (by omega) (by omega)
      have HR := hide hrun
      have HX := hide hownu
      have K7 : w7.cell? ⟨I.kb, 1, none⟩ = some (.map (some I.fm)) := (World.cell?_of_block (w := w4.alloc (Obj.cells #[.string nm, .slice ua L.length uc] 30)) (a := ⟨I.kb, 1, none⟩) (hg7.block I.kb (by show I.kb < _; omega) (fun e => by have := (HOa.out.lt I.kb e.symm).1; omega))).trans Ka
      clear hrun hownu hcu0 hcu1
      go_wp2_with (first | (at_builtin; refine Lib.wpList_append_run _ rfl _ _ _ _ rfl _ _ rfl rfl _ _ HR.out ?_) | fail)
      all_goals
        go_roundw
        case rel =>
          have hLa : LCells w7 w1.heap.size ((K.files.take k).map Prod.snd) us := HLa.out.keep fun j hj v i h1 e => by
            obtain ⟨v', h2, h3⟩ := HLa.out.2.1 j hj
            rw [h1] at h2
            cases h2
            exact hg7.block i (h3.lt i e).2 (fun e' => Te_owns_apart h3 HOa.out (by decide) i e e'.symm)
          have hU7 := owns_keep (W' := w7) HUa.out fun i e => hg7.block i (HUa.out.lt i e).2 (fun e' => Te_owns_apart HUa.out HOa.out (by decide) i e e'.symm)
          refine ⟨k + 1, us ++ [.slice ua L.length uc], by omega, by go_num, ?_, ?_, hide ?_, hide (hB0a.grown hg7 hB0a.size (fun j e => (HOa.out.lt j e).1))⟩
          · have h8 := HO7.out
            rw [← ncs_snoc (K.files.take k) us (nm, L) _ (by simp; omega)] at h8
            rw [show K.files.take (k + 1) = K.files.take k ++ [(nm, L)] by rw [List.take_add_one, HPk.out]; rfl]
            exact h8
          · have h9 : k < (K.files.map Prod.snd).length := by rw [List.length_map]; exact (List.getElem?_eq_some_iff.1 HPk.out).1
            rw [List.map_take] at hLa ⊢
            refine LCells.snoc h9 hLa _ ?_ (fun j v i h1 e e' => ?_)
            · rw [List.getElem_map, (List.getElem?_eq_some_iff.1 HPk.out).2]
              exact owns_mono hU7 (by omega)
            · obtain ⟨v', h2, h3⟩ := HL.out.2.1 j (by have := (List.getElem?_eq_some_iff.1 h1).1; have := HL.out.1; omega)
              rw [h1] at h2
              cases h2
              have := (h3.lt i e).2
              have : wr.heap.size ≤ i := (HX.out.lt i e').1
              omega
          · exact owns_keep (owns_below HRw.out hB4a) fun i e => hg7.block i (Nat.lt_of_lt_of_le (HRw.out.lt i e).2 hB4a.size) (fun e' => Te_owns_apart (owns_below HRw.out hB4a) HOa.out (by decide) i e e'.symm)
        case measure => simp [intOf]; omega
    · have hke : k = K.files.length := by have := HN.out; simp only [fnames, KS.files, List.length_map] at *; omega
      go_wp2
      go_ret
      have h1 := HL.out
      have h2 := HO.out
      subst hke
      rw [List.take_length] at h1 h2
      exact ⟨_, us, rfl, h2, h1, HB.out⟩
end Go.Proofs.Ytknpghmcacocfaa

/- KernPieces: the kernel's states, as values. -/
namespace Go.Proofs.Ytknpghmcacocfaa
open Go.RowKit Go.Maps

def nmG : ByteArray := ⟨#[103]⟩
/-- Two files: one read, one written. -/
def KPc (b y : List UInt8) (p q : Nat) (L : List Fault) (rd wr : Nat) : KS := ⟨[⟨nmF, .file b⟩, ⟨nmG, .file y⟩], [0, 1], [⟨1, 0, 1, p, 1⟩, ⟨2, 1, 10, q, 1⟩], 3, L, rd, wr⟩
theorem pc_open1 (b : List UInt8) (l : List Fault) : (KS.new [(nmF, b)] [] l).open nmF 1 = (1, 0, ⟨[⟨nmF, .file b⟩], [0], [⟨1, 0, 1, 0, 1⟩], 2, l, 0, 0⟩) := rfl
theorem pc_open2 (b : List UInt8) (l : List Fault) : (⟨[⟨nmF, .file b⟩], [0], [⟨1, 0, 1, 0, 1⟩], 2, l, 0, 0⟩ : KS).open nmG 10 = (2, 0, KPc b [] 0 0 l 0 0) := rfl
theorem pc_read (b y : List UInt8) (p q : Nat) (L : List Fault) (rd wr : Nat) (n : Nat) (hp : p ≤ b.length) (hL : planOk L) (h1 : 1 ≤ n) (h2 : n ≤ 1048576) :
    ∃ Y E, (KPc b y p q L rd wr).read 1 (n : Int) = (Y, E, KPc b y (p + Y.length) q L.tail (rd + 1) wr) ∧ b.take p ++ Y = b.take (p + Y.length) ∧ p + Y.length ≤ b.length ∧ (E = 0 ∨ E = 22 ∨ E = 23) ∧ Y.length ≤ n ∧ (Y.length = 0 → p < b.length → L ≠ []) := by
  have hx : (KPc b y p q L rd wr).find 1 = some ⟨1, 0, 1, p, 1⟩ := rfl
  have n1 : (1 : Int) ≤ (n : Int) := by omega
  have n2 : (n : Int) ≤ 1048576 := by omega
  rw [read_is hx (by show fbit 1 1 ≠ 0; decide) n1 n2 rfl]
  rw [show (KPc b y p q L rd wr).plan = L from rfl]
  rcases nxt_err (l := L) n1 n2 with e | e | e
  · rw [if_pos e]
    have hg := nxt_good hL n1 n2 e
    refine ⟨piece b p (nxt L n).1.toNat, 0, rfl, take_piece hp, ?_, .inl rfl, ?_, ?_⟩
    · rw [piece_len]; omega
    · rw [piece_len]; omega
    · intro h0 hlt; rw [piece_len] at h0; omega
  · rw [if_neg (by omega), e]
    refine ⟨[], 22, rfl, by simp, by simpa using hp, by simp, by simp, fun _ _ hn => ?_⟩
    subst hn
    rw [nxt_nil n1 n2] at e
    cases e
  · rw [if_neg (by omega), e]
    refine ⟨[], 23, rfl, by simp, by simpa using hp, by simp, by simp, fun _ _ hn => ?_⟩
    subst hn
    rw [nxt_nil n1 n2] at e
    cases e
theorem wrL_more (x : List UInt8) (q m : Nat) (hq : q + m ≤ x.length) (hm : 1 ≤ m) (h2 : x.length ≤ 1048576) : wrL (x.take q) q ((x.drop q).take m) = x.take (q + m) := by
  unfold wrL
  have hl : ((x.drop q).take m).length = m := by rw [List.length_take, List.length_drop]; omega
  have hf : Fi_wrE q ((x.drop q).take m).length = 0 := wr_fits (at' := q) (by omega)
  rw [if_pos hf]
  have hne : (x.drop q).take m ≠ [] := by intro e; rw [e] at hl; simp at hl; omega
  have htl : (x.take q).length = q := by rw [List.length_take]; omega
  unfold lay grow
  simp only [hl, htl]
  have hd : (List.take q x ++ List.replicate (q + m - q) (0 : UInt8)).drop (q + m) = [] := List.drop_of_length_le (by rw [List.length_append, htl, List.length_replicate]; omega)
  rw [if_neg hne, Int.toNat_natCast, List.take_append_of_le_length (by omega), List.take_of_length_le (by omega), hd, List.append_nil, List.take_add]
theorem pc_write (b x : List UInt8) (p q : Nat) (L : List Fault) (rd wr : Nat) (hq : q < x.length) (h2 : x.length ≤ 1048576) (hL : planOk L) :
    ∃ (m : Nat) (E : Int), (KPc b (x.take q) p q L rd wr).write 2 (x.drop q) = ((m : Int), E, KPc b (x.take (q + m)) p (q + m) L.tail rd (wr + 1)) ∧ q + m ≤ x.length ∧ (E = 0 ∨ E = 22 ∨ E = 23) ∧ (m = 0 → L ≠ []) := by
  have hx : (KPc b (x.take q) p q L rd wr).find 2 = some ⟨2, 1, 10, q, 1⟩ := rfl
  have hdl : (x.drop q).length = x.length - q := List.length_drop
  have hpl : placeOf (x.take q) 10 q = q := rfl
  have hr : refusal ((KPc b (x.take q) p q L rd wr).tho ⟨2, 1, 10, q, 1⟩) 10 q (x.drop q).length = 0 := by
    show (if placeOf (x.take q) 10 q = 1048576 then (31 : Int) else 0) = 0
    rw [hpl, if_neg (by omega)]
  have n1 : (1 : Int) ≤ ((x.drop q).length : Int) := by omega
  have n2 : ((x.drop q).length : Int) ≤ 1048576 := by omega
  rw [write_is hx (by show fbit 10 2 ≠ 0; decide) (by omega) (by omega) hr]
  rw [show (KPc b (x.take q) p q L rd wr).plan = L from rfl]
  rcases nxt_err (l := L) n1 n2 with e | e | e
  · rw [if_pos e]
    have hg := nxt_good hL n1 n2 e
    obtain ⟨m, hm⟩ : ∃ m : Nat, (nxt L (x.drop q).length).1 = (m : Int) := ⟨(nxt L (x.drop q).length).1.toNat, by omega⟩
    rw [hm] at hg ⊢
    have hmin : min ((m : Int)).toNat (1048576 - placeOf (x.take q) 10 q) = m := by rw [hpl]; omega
    refine ⟨m, 0, ?_, by omega, .inl rfl, fun h0 => by omega⟩
    show (KPc b (x.take q) p q L rd wr).writeUp.wrx ⟨2, 1, 10, q, 1⟩ (x.drop q) m = _
    rw [show (KPc b (x.take q) p q L rd wr).writeUp.wrx ⟨2, 1, 10, q, 1⟩ (x.drop q) m = (((min ((m : Int)).toNat (1048576 - placeOf (x.take q) 10 q) : Nat) : Int), 0, ((KPc b (x.take q) p q L rd wr).writeUp.setOb 1 (.file (wrL (x.take q) (placeOf (x.take q) 10 q) ((x.drop q).take (min ((m : Int)).toNat (1048576 - placeOf (x.take q) 10 q)))))).setDe ⟨2, 1, 10, placeOf (x.take q) 10 q + min ((m : Int)).toNat (1048576 - placeOf (x.take q) 10 q), 1⟩) from rfl]
    rw [hmin, hpl, wrL_more x q m (by omega) (by omega) h2]
    rfl
  · rw [if_neg (by omega), e]
    refine ⟨0, 22, rfl, by omega, by simp, fun _ hn => ?_⟩
    subst hn
    rw [nxt_nil n1 n2] at e
    cases e
  · rw [if_neg (by omega), e]
    refine ⟨0, 23, rfl, by omega, by simp, fun _ hn => ?_⟩
    subst hn
    rw [nxt_nil n1 n2] at e
    cases e
theorem pc_files (b x : List UInt8) (p q : Nat) (L : List Fault) (rd wr : Nat) : (KPc b x p q L rd wr).files = [(nmF, b), (nmG, x)] := rfl
theorem KAt.files {w : World} {O : Nat → Prop} {kb : Nat} {K : KS} (h : KAt w O kb K) :
    Calls Try.prog 28 #[.pointer (some ⟨kb, 0, none⟩)] w fun e w' => ∃ v us, e = .returned v ∧ w'.ownsRow w.heap.size 30 2 v K.files.length (ncs K.files us) ∧ LCells w' w.heap.size (K.files.map Prod.snd) us ∧ Below w.heap.size w w' := by
  obtain ⟨ρ, I, h1, rfl, h3⟩ := h
  exact kfiles_any ρ I K w h1
end Go.Proofs.Ytknpghmcacocfaa

/- Handles: their calls, those of no kernel, and two kernels side by side. -/
namespace Go.Proofs.Ytknpghmcacocfaa
open Go.RowKit Go.Maps

theorem described_nil (d : Int) (w : World) : Calls Try.prog 41 #[.pointer none, .int .i64 d] w fun e w' => e = .returned (.tuple #[.pointer none, .int .i64 2]) ∧ w = w' := by
  go_enter Try.func41, Try.ntmps41
  go_wp2_with fail
  refine (kmade_nil w).mono ?_
  rintro e w1 ⟨rfl, rfl⟩
  go_wp2
  go_ret2
  exact ⟨rfl, rfl⟩
set_option maxRecDepth 100000 in
set_option maxHeartbeats 1000000 in
theorem kread_nil (d n : Int) (w : World) : Calls Try.prog 14 #[.pointer none, .int .i64 d, .int .i64 n] w fun e w' => e = .returned (.tuple #[.slice none 0 0, .int .i64 2]) ∧ w = w' := by
  go_enter Try.func14, Try.ntmps14
  go_wp2_with fail
  refine (described_nil d w).mono ?_
  rintro e w1 ⟨rfl, rfl⟩
  go_wp2
  go_ret2
  exact ⟨rfl, rfl⟩
set_option maxRecDepth 100000 in
set_option maxHeartbeats 1000000 in
theorem kwrite_nil (d : Int) (a : Option Addr) (n c : Nat) (w : World) : Calls Try.prog 16 #[.pointer none, .int .i64 d, .slice a n c] w fun e w' => e = .returned (.tuple #[.int .i64 0, .int .i64 2]) ∧ w = w' := by
  go_enter Try.func16, Try.ntmps16
  go_wp2_with fail
  refine (described_nil d w).mono ?_
  rintro e w1 ⟨rfl, rfl⟩
  go_wp2
  go_ret2
  exact ⟨rfl, rfl⟩
set_option maxRecDepth 100000 in
set_option maxHeartbeats 1000000 in
theorem kseek_nil (d o h : Int) (w : World) : Calls Try.prog 17 #[.pointer none, .int .i64 d, .int .i64 o, .int .i64 h] w fun e w' => e = .returned (.tuple #[.int .i64 0, .int .i64 2]) ∧ w = w' := by
  go_enter Try.func17, Try.ntmps17
  go_wp2_with fail
  refine (described_nil d w).mono ?_
  rintro e w1 ⟨rfl, rfl⟩
  go_wp2
  go_ret2
  exact ⟨rfl, rfl⟩
set_option maxRecDepth 100000 in
theorem hread_nil (d n : Int) (w : World) : Calls Try.prog 117 #[.agg #[.pointer none, .int .i64 d], .int .i64 n] w fun e w' => e = .returned (.tuple #[.slice none 0 0, .int .i64 2]) ∧ Below w.heap.size w w' := by
  have hB := recv_below w (Obj.cells #[.pointer none, .int .i64 d] 59)
  go_enter Try.func117, Try.ntmps117
  go_wp2_with fail
  refine (kread_nil d n _).mono ?_
  rintro e w1 ⟨rfl, rfl⟩
  go_wp2
  go_ret2
  exact ⟨rfl, hB⟩
set_option maxRecDepth 100000 in
theorem hwrite_nil (d : Int) (a : Option Addr) (n c : Nat) (w : World) : Calls Try.prog 119 #[.agg #[.pointer none, .int .i64 d], .slice a n c] w fun e w' => e = .returned (.tuple #[.int .i64 0, .int .i64 2]) ∧ Below w.heap.size w w' := by
  have hB := recv_below w (Obj.cells #[.pointer none, .int .i64 d] 59)
  go_enter Try.func119, Try.ntmps119
  go_wp2_with fail
  refine (kwrite_nil d a n c _).mono ?_
  rintro e w1 ⟨rfl, rfl⟩
  go_wp2
  go_ret2
  exact ⟨rfl, hB⟩
/-- A step behind blocks that are new. -/
theorem KStep.behind {w w1 w' : World} {O : Nat → Prop} {kb : Nat} {K : KS} (h : KStep w1 O kb K w') (hB : Below w.heap.size w w1) : KStep w O kb K w' := by
  obtain ⟨O', h1, h2, h3⟩ := h
  exact ⟨O', h1, fun k e => (h2 k e).imp id (fun e => Nat.le_trans hB.size e), (Turned.of_below hB).trans h3 (fun _ _ e => e)⟩
set_option maxRecDepth 100000 in
theorem KAt.hread {w : World} {O : Nat → Prop} {kb : Nat} {K : KS} (h : KAt w O kb K) (d n : Int) (hd : I64 d) (hr : K.reads < 9223372036854775807) :
    Calls Try.prog 117 #[.agg #[.pointer (some ⟨kb, 0, none⟩), .int .i64 d], .int .i64 n] w fun e w' => ∃ v, e = .returned (.tuple #[v, .int .i64 (K.read d n).2.1]) ∧ w'.ownsRow w.heap.size 5 1 v (K.read d n).1.length ((K.read d n).1.map bv) ∧ KStep w O kb (K.read d n).2.2 w' := by
  have hB := recv_below w (Obj.cells #[.pointer (some ⟨kb, 0, none⟩), .int .i64 d] 59)
  have HR := hide ((h.below hB).read d n hd hr)
  have HB := hide hB
  clear h hB
  go_enter Try.func117, Try.ntmps117
  go_wp2_with fail
  refine HR.out.mono ?_
  rintro e w1 ⟨v, rfl, h1, h2, h3⟩
  have HS : Hid (KStep w O kb (K.read d n).2.2 w1) := hide (KStep.behind ⟨O, h2, fun _ e => .inl e, h3⟩ HB.out)
  have HO := hide (owns_mono h1 HB.out.size)
  clear h1 h2 h3
  go_wp2
  go_ret2
  exact ⟨v, rfl, HO.out, HS.out⟩
set_option maxRecDepth 100000 in
theorem KAt.hwrite {w : World} {O : Nat → Prop} {kb : Nat} {K : KS} (h : KAt w O kb K) (d : Int) (bs : List UInt8) (a1 : Option Addr) (cx : Nat) (hd : I64 d) (hr : K.writes < 9223372036854775807)
    (hb : Bys w (.slice a1 bs.length cx) bs) (hcap : bs.length ≤ cx) (hbig : bs.length ≤ 9223372036854775807) (hap : 0 < bs.length → ∀ k, (Value.slice a1 bs.length cx).ownBlock = some k → ¬ O k) :
    Calls Try.prog 119 #[.agg #[.pointer (some ⟨kb, 0, none⟩), .int .i64 d], .slice a1 bs.length cx] w fun e w' => e = .returned (.tuple #[.int .i64 (K.write d bs).1, .int .i64 (K.write d bs).2.1]) ∧ KStep w O kb (K.write d bs).2.2 w' := by
  have hB := recv_below w (Obj.cells #[.pointer (some ⟨kb, 0, none⟩), .int .i64 d] 59)
  have HR := hide ((h.below hB).write d bs a1 cx hd hr (hb.below hB) hcap hbig hap)
  have HB := hide hB
  clear h hB hb hap
  go_enter Try.func119, Try.ntmps119
  go_wp2_with fail
  refine HR.out.mono ?_
  rintro e w1 ⟨rfl, h1⟩
  have HS := hide (h1.behind HB.out)
  clear h1
  go_wp2
  go_ret2
  exact ⟨rfl, HS.out⟩
theorem KAt.rstep {w w' : World} {O : Nat → Prop} {kb : Nat} {K' : KS} (h : KAt w' O kb K') (hT : Turned O w w') : KStep w O kb K' w' := ⟨O, h, fun _ e => .inl e, hT⟩
/-- Two kernels that share nothing, from a base on. -/
def Two (W : World) (B kb mb : Nat) (K M : KS) : Prop := ∃ O P, KAt W O kb K ∧ KAt W P mb M ∧ (∀ j, O j → B ≤ j ∧ j < W.heap.size ∧ ¬ P j) ∧ ∀ j, P j → B ≤ j ∧ j < W.heap.size
theorem Two.swap {W : World} {B kb mb : Nat} {K M : KS} (h : Two W B kb mb K M) : Two W B mb kb M K := by
  obtain ⟨O, P, h1, h2, h3, h4⟩ := h
  exact ⟨P, O, h2, h1, fun j e => ⟨(h4 j e).1, (h4 j e).2, fun e' => (h3 j e').2.2 e⟩, fun j e => ⟨(h3 j e).1, (h3 j e).2.1⟩⟩
theorem Two.below {W W' : World} {B kb mb : Nat} {K M : KS} (h : Two W B kb mb K M) (hB : Below W.heap.size W W') : Two W' B kb mb K M := by
  obtain ⟨O, P, h1, h2, h3, h4⟩ := h
  exact ⟨O, P, h1.below hB, h2.below hB, fun j e => ⟨(h3 j e).1, Nat.lt_of_lt_of_le (h3 j e).2.1 hB.size, (h3 j e).2.2⟩, fun j e => ⟨(h4 j e).1, Nat.lt_of_lt_of_le (h4 j e).2 hB.size⟩⟩
/-- Both, and what a step of the one, and then of the other, leaves. -/
theorem Two.both {wr : World} {B kb mb : Nat} {K M : KS} (h : Two wr B kb mb K M) (hB : B ≤ wr.heap.size) :
    ∃ O P, KAt wr O kb K ∧ KAt wr P mb M ∧ (∀ j, O j → B ≤ j ∧ j < wr.heap.size) ∧ (∀ j, P j → B ≤ j ∧ j < wr.heap.size) ∧
      ∀ wb, Below wr.heap.size wr wb → ∀ K' w6, KStep wb O kb K' w6 → KAt w6 P mb M ∧ ∀ M' w7, KStep w6 P mb M' w7 → Two w7 B kb mb K' M' ∧ Below B wr w7 := by
  obtain ⟨O, P, h1, h2, h3, h4⟩ := h
  refine ⟨O, P, h1, h2, fun j e => ⟨(h3 j e).1, (h3 j e).2.1⟩, h4, fun wb hb K' w6 hS => ?_⟩
  obtain ⟨O', g1, g2, g3⟩ := hS
  have hsb := hb.size
  have hm : KAt w6 P mb M := (h2.below hb).keep (fun j e hl => g3.block j hl (fun e' => (h3 j e').2.2 e)) g3.size
  refine ⟨hm, fun M' w7 hS7 => ?_⟩
  obtain ⟨P', f1, f2, f3⟩ := hS7
  have hz6 := g3.size
  have hz7 := f3.size
  have g1' := g1.trim
  refine ⟨⟨fun k => O' k ∧ k < w6.heap.size, fun k => P' k ∧ k < w7.heap.size, g1'.keep (fun j e hl => f3.block j hl (fun e' => ?_)) hz7, f1.trim, fun j e => ⟨?_, Nat.lt_of_lt_of_le e.2 hz7, fun e' => ?_⟩, fun j e => ⟨?_, e.2⟩⟩, (hb.mono hB).trans ((g3.below (fun j e => (h3 j e).1) (Nat.le_trans hB hsb)).trans (f3.below (fun j e => (h4 j e).1) (Nat.le_trans hB (Nat.le_trans hsb hz6))))⟩
  · rcases g2 j e.1 with e1 | e1
    · exact (h3 j e1).2.2 e'
    · have := (h4 j e').2; omega
  · rcases g2 j e.1 with e1 | e1
    · exact (h3 j e1).1
    · omega
  · rcases f2 j e'.1 with e2 | e2
    · rcases g2 j e.1 with e1 | e1
      · exact (h3 j e1).2.2 e2
      · have := (h4 j e2).2; omega
    · have := e.2; omega
  · rcases f2 j e.1 with e2 | e2
    · exact (h4 j e2).1
    · omega
theorem six_cells (w : World) (a b c d e f : Value) (t : TypeId) : (w.alloc (Obj.cells #[a, b, c, d, e, f] t)).cell? ⟨w.heap.size, 1, none⟩ = some b ∧ (w.alloc (Obj.cells #[a, b, c, d, e, f] t)).cell? ⟨w.heap.size, 2, none⟩ = some c ∧ (w.alloc (Obj.cells #[a, b, c, d, e, f] t)).cell? ⟨w.heap.size, 3, none⟩ = some d ∧ (w.alloc (Obj.cells #[a, b, c, d, e, f] t)).cell? ⟨w.heap.size, 4, none⟩ = some e ∧ (w.alloc (Obj.cells #[a, b, c, d, e, f] t)).cell? ⟨w.heap.size, 5, none⟩ = some f := by
  refine ⟨?_, ?_, ?_, ?_, ?_⟩ <;> (simp only [World.cell?, heap_alloc_new]; rfl)
theorem cell_keep {O : Nat → Prop} {w w' : World} {g j : Nat} {v : Value} (hT : Turned O w w') (h : w.cell? ⟨g, j, none⟩ = some v) (hO : ¬ O g) : w'.cell? ⟨g, j, none⟩ = some v :=
  (World.cell?_of_block (w := w) (a := ⟨g, j, none⟩) (hT.block g (World.block_lt_of_cell? w _ h) hO)).trans h
theorem KStep.turned {w w' : World} {O : Nat → Prop} {kb : Nat} {K : KS} (h : KStep w O kb K w') : Turned O w w' := by
  obtain ⟨_, _, _, h3⟩ := h
  exact h3
theorem KAt.files_ok {w : World} {O : Nat → Prop} {kb : Nat} {K : KS} (h : KAt w O kb K) : K.files.length ≤ 256 ∧ ∀ j (hj : j < K.files.length), K.files[j].2.length ≤ 1048576 ∧ K.files[j].1.size ≤ maxLen := by
  obtain ⟨ρ, I, h1, _, _⟩ := h
  refine ⟨?_, fun j hj => ?_⟩
  · have := h1.ok.named
    have h4 : K.files.length ≤ K.nm.length := by unfold KS.files KS.fidx; simpa using List.length_filter_le _ _
    omega
  · obtain ⟨i, L, hm, hi, ho, _, hf⟩ := file_at h1.ok (k := j) (by simpa [fnames, KS.files] using hj)
    rw [(List.getElem?_eq_some_iff.1 hf).2]
    have := h1.comp (.obj i) hi
    rw [← KS.obOf_eq hi, ho] at this
    exact ⟨this.1, by have := name_few (h1.nm.ok i hm); unfold maxLen; show (K.nameOf i).size ≤ _; omega⟩
theorem kle_seek (K : KS) (d o h : Int) : KLe K (K.seek d o h).2.2 := by
  unfold KS.seek
  repeat' split
  all_goals first
    | exact KLe.refl K
    | exact ⟨Nat.le_add_right K.next 2, Nat.le_add_right K.reads 1, Nat.le_add_right K.writes 1⟩
theorem bys_none {W W' : World} {v : Value} {l : List UInt8} (h : Bys W v l) (h0 : ¬ 0 < l.length) : Bys W' v l := by
  rcases h with h | h | ⟨_, _, _, _, h, _⟩
  · exact .inl h
  · exact .inr (.inl h)
  · exact absurd h h0
theorem read_few {w : World} {O : Nat → Prop} {kb : Nat} {K : KS} (h : KAt w O kb K) (d n : Int) : (K.read d n).1.length ≤ 1048576 := by
  obtain ⟨ρ, I, h1, _, _⟩ := h
  have ok : ∀ x, K.find d = some x → (K.tho x).ok := fun x hx => by
    have hi := h1.ok.th x (KS.find_some hx).1
    have := (h1.comp (.obj x.th) hi).ok
    rw [KS.tho_eq hi]
    exact this
  unfold KS.read
  split
  · simp
  · rename_i x hx
    have hk := ok x hx
    split
    · simp
    split
    · simp
    split
    · simp
    split
    · simp
    split
    · revert hk
      cases K.tho x with
      | file b => intro hk; simp only [piece_len]; have : b.length ≤ 1048576 := hk; omega
      | term ls scr =>
        intro hk
        simp only [rdH]
        split
        · cases ls with
          | nil => simp [headL]
          | cons l r =>
            have := hk.2.1 0 (by simp)
            simp only [List.getElem_cons_zero] at this
            simp only [headL, List.length_take]
            omega
        · simp
      | pipe q rd wt => intro hk; have : q.length ≤ 4096 := hk.1; simp only [rdB]; split <;> simp <;> omega
    · simp
end Go.Proofs.Ytknpghmcacocfaa

/- A kernel's handle is a Raw. -/
namespace Go.Proofs.Ytknpghmcacocfaa
open Go.RowKit Go.Maps

def kerD (d : Int) : RawD KS where
  read K n := K.read d n
  write K bs := K.write d bs
def kerR (K : KS) : Prop := K.reads < 9223372036854775807
def kerW (K : KS) : Prop := K.writes < 9223372036854775807
set_option maxRecDepth 100000 in
theorem KAt.hread2 {w : World} {O : Nat → Prop} {kb : Nat} {K : KS} (h : KAt w O kb K) (d n : Int) (hd : I64 d) (hr : K.reads < 9223372036854775807) :
    Calls Try.prog 117 #[.agg #[.pointer (some ⟨kb, 0, none⟩), .int .i64 d], .int .i64 n] w fun e w' => ∃ v, e = .returned (.tuple #[v, .int .i64 (K.read d n).2.1]) ∧ w'.ownsRow w.heap.size 5 1 v (K.read d n).1.length ((K.read d n).1.map bv) ∧ KAt w' O kb (K.read d n).2.2 ∧ Turned O w w' := by
  have hB := recv_below w (Obj.cells #[.pointer (some ⟨kb, 0, none⟩), .int .i64 d] 59)
  have HR := hide ((h.below hB).read d n hd hr)
  have HB := hide hB
  clear h hB
  go_enter Try.func117, Try.ntmps117
  go_wp2_with fail
  refine HR.out.mono ?_
  rintro e w1 ⟨v, rfl, h1, h2, h3⟩
  have HK := hide h2
  have HT := hide ((Turned.of_below HB.out).trans h3 (fun _ _ e => e))
  have HO := hide (owns_mono h1 HB.out.size)
  clear h1 h2 h3
  go_wp2
  go_ret2
  exact ⟨v, rfl, HO.out, HK.out, HT.out⟩
theorem ker_raw (kb : Nat) (d : Int) (hd : I64 d) : RawM (kerD d) 59 (.agg #[.pointer (some ⟨kb, 0, none⟩), .int .i64 d]) 117 119 kerR kerW (fun w O K => KAt w O kb K) where
  mread w := by kernel_rfl
  mwrite w := by kernel_rfl
  cread a w := by kernel_rfl
  cwrite a w := by kernel_rfl
  keep h hk hs := h.keep hk hs
  few n h := Nat.le_trans (read_few h d n) (by decide)
  read n h hr _ _ := h.hread2 d n hd hr
  write bs a c h hw hb hc _ h2 hap := (h.hwrite d bs a c hd hw hb hc (by omega) (fun _ => hap)).mono fun e w' ⟨h1, h2⟩ => ⟨h1, h2⟩
/-- A Raw whose states are places in some bytes, a plan, and how many reads there were. -/
structure RdV {S : Type} (D : RawD S) (b : List UInt8) (st : Nat → List Fault → Nat → S) : Prop where
  read : ∀ p L rd n, p ≤ b.length → planOk L → 1 ≤ n → n ≤ 1048576 → ∃ Y E, D.read (st p L rd) n = (Y, E, st (p + Y.length) L.tail (rd + 1)) ∧ b.take p ++ Y = b.take (p + Y.length) ∧ p + Y.length ≤ b.length ∧ Y.length ≤ n ∧ ((E = 0 ∧ (p < b.length → Y ≠ [])) ∨ ((E = 22 ∨ E = 23) ∧ Y = [] ∧ L ≠ []))
theorem RdV.some {S : Type} {D : RawD S} {b : List UInt8} {st : Nat → List Fault → Nat → S} (h : RdV D b st) {ok : S → Prop} {R : Nat} (hok : ∀ p L r, r < R → ok (st p L r)) (n p : Nat) (hp : p ≤ b.length) (h1 : 1 ≤ n) (h2 : n ≤ 1048576) : ∀ k L rd, L.length < k → planOk L → rd + L.length + 1 ≤ R →
    someOk D ok n k (st p L rd) ∧ ∃ Y L' rd', someV D n k (st p L rd) = (Y, 0, st (p + Y.length) L' rd') ∧ b.take p ++ Y = b.take (p + Y.length) ∧ p + Y.length ≤ b.length ∧ Y.length ≤ n ∧ (p < b.length → Y ≠ []) ∧ planOk L' ∧ rd' + L'.length ≤ rd + L.length + 1
  | 0, _, _, hk, _, _ => absurd hk (Nat.not_lt_zero _)
  | k + 1, L, rd, hk, hL, hR => by
    obtain ⟨Y, E, hd, h3, h4, h5, h6⟩ := h.read p L rd n hp hL h1 h2
    rw [someV_next D n k _ hd]
    have hT : L.tail.length ≤ L.length := by simp
    rcases h6 with ⟨rfl, h6⟩ | ⟨h6, rfl, h7⟩
    · refine ⟨⟨hok _ _ _ (by omega), fun e => ?_⟩, Y, L.tail, rd + 1, ?_, h3, h4, h5, h6, hL.tail, by omega⟩
      · rw [hd] at e; simp at e
      · rw [if_neg (by simp), if_neg (by omega), if_pos rfl]
    · have hLl : L.tail.length + 1 = L.length := by cases L with
        | nil => exact absurd rfl h7
        | cons f r => simp
      obtain ⟨g1, Y, L', rd', g2, g3, g4, g5, g6, g7, g8⟩ := h.some hok n p hp h1 h2 k L.tail (rd + 1) (by omega) hL.tail (by omega)
      refine ⟨⟨hok _ _ _ (by omega), fun _ => ?_⟩, Y, L', rd', ?_, g3, g4, g5, g6, g7, by omega⟩
      · rw [hd]; exact g1
      · rw [if_pos h6]; exact g2
theorem RdV.all {S : Type} {D : RawD S} {b : List UInt8} {st : Nat → List Fault → Nat → S} (h : RdV D b st) {ok : S → Prop} {R : Nat} (hok : ∀ p L r, r < R → ok (st p L r)) (n : Nat) (h2 : n ≤ 1048576) : ∀ f p G L rd, p ≤ b.length → n - G.length ≤ f → G.length ≤ n → planOk L → rd + L.length + (n - G.length) + 1 ≤ R →
    allOk D ok n f (st p L rd) G ∧ ∃ Y L' rd', allV D n f (st p L rd) G = (G ++ Y, 0, st (p + Y.length) L' rd') ∧ b.take p ++ Y = b.take (p + Y.length) ∧ p + Y.length ≤ b.length ∧ G.length + Y.length ≤ n ∧ (G.length + Y.length = n ∨ p + Y.length = b.length) ∧ planOk L'
  | 0, p, G, L, rd, hp, hf, hG, hL, hR => ⟨trivial, [], L, rd, by rw [List.append_nil]; rfl, by simp, by simpa using hp, by simpa using hG, .inl (by simp; omega), hL⟩
  | f + 1, p, G, L, rd, hp, hf, hG, hL, hR => by
    by_cases hlt : G.length < n
    case neg => exact ⟨fun e => absurd e hlt, [], L, rd, by rw [allV_done D n _ _ _ hlt, List.append_nil]; rfl, by simp, by simpa using hp, by simpa using hG, .inl (by simp; omega), hL⟩
    obtain ⟨g1, Y, L1, rd1, g2, g3, g4, g5, g6, g7, g8⟩ := h.some hok (n - G.length) p hp (by omega) (by omega) 8192 L rd (by have := hL.1; omega) hL (by omega)
    have hn := allV_next D n f (st p L rd) G g2
    rw [if_pos hlt] at hn
    by_cases hY : Y = []
    · subst hY
      rw [if_neg (by simp)] at hn
      refine ⟨fun _ => ⟨g1, fun e => ?_⟩, [], L1, rd1, by rw [hn, List.append_nil], g3, g4, by simpa using hG, .inr ?_, g7⟩
      · rw [g2] at e; exact absurd rfl e.2
      · by_cases hpl : p < b.length
        · exact absurd rfl (g6 hpl)
        · simp at g4 ⊢; omega
    · rw [if_pos ⟨rfl, hY⟩] at hn
      have hY1 : 1 ≤ Y.length := by cases Y with
        | nil => exact absurd rfl hY
        | cons _ _ => simp
      have hl : (G ++ Y).length = G.length + Y.length := List.length_append
      obtain ⟨k1, Z, L', rd', k2, k3, k4, k5, k6, k7⟩ := h.all hok n h2 f (p + Y.length) (G ++ Y) L1 rd1 g4 (by omega) (by omega) g7 (by omega)
      refine ⟨fun _ => ⟨g1, fun _ => ?_⟩, Y ++ Z, L', rd', ?_, ?_, by rw [List.length_append]; omega, by rw [List.length_append]; omega, ?_, k7⟩
      · rw [g2]; exact k1
      · rw [hn, k2, List.append_assoc, List.length_append, Nat.add_assoc]
      · rw [← List.append_assoc, g3, k3, List.length_append, Nat.add_assoc]
      · rw [List.length_append]; omega
/-- A Raw whose states are how much of some bytes it took, a plan, and how many writes there were. -/
structure WrV {S : Type} (D : RawD S) (x : List UInt8) (st : Nat → List Fault → Nat → S) : Prop where
  write : ∀ q L wr, q < x.length → planOk L → ∃ (m : Nat) (E : Int), D.write (st q L wr) (x.drop q) = ((m : Int), E, st (q + m) L.tail (wr + 1)) ∧ q + m ≤ x.length ∧ ((E = 0 ∧ 1 ≤ m) ∨ ((E = 22 ∨ E = 23) ∧ m = 0 ∧ L ≠ []))
set_option maxRecDepth 100000 in
theorem WrV.put {S : Type} {D : RawD S} {x : List UInt8} {st : Nat → List Fault → Nat → S} (h : WrV D x st) {ok : S → Prop} {R : Nat} (hok : ∀ p L r, r < R → ok (st p L r)) : ∀ f q t L wr, q ≤ x.length → (x.length - q) * 8192 + (8192 - t) ≤ f → t + L.length ≤ 4096 → planOk L → wr + L.length + (x.length - q) ≤ R →
    putOk D ok x f (st q L wr) q t ∧ ∃ L' wr', putV D x f (st q L wr) q t = (x.length, 0, st x.length L' wr') ∧ planOk L'
  | 0, q, t, L, wr, hq, hf, ht, hL, hR => by omega
  | f + 1, q, t, L, wr, hq, hf, ht, hL, hR => by
    by_cases hlt : q < x.length
    case neg =>
      obtain rfl : q = x.length := by omega
      exact ⟨fun e => absurd e hlt, L, wr, putV_done D x _ _ _ _ hlt, hL⟩
    obtain ⟨m, E, hw, h3, h4⟩ := h.write q L wr hlt hL
    have hn := putV_next D x f (st q L wr) q t hw
    rw [if_pos hlt] at hn
    have hT : L.tail.length ≤ L.length := by simp
    rcases h4 with ⟨rfl, h4⟩ | ⟨h4, rfl, h5⟩
    · rw [if_neg (by omega), if_neg (by omega), if_pos rfl, Int.toNat_natCast] at hn
      obtain ⟨k1, L', wr', k2, k3⟩ := h.put hok f (q + m) 0 L.tail (wr + 1) h3 (by omega) (by omega) hL.tail (by omega)
      refine ⟨fun _ => ⟨hok _ _ _ (by omega), fun e => ?_, fun _ _ _ => ?_⟩, L', wr', hn.trans k2, k3⟩
      · rw [hw] at e; simp only at e; omega
      · rw [hw, Int.toNat_natCast]; exact k1
    · have hLl : L.tail.length + 1 = L.length := by cases L with
        | nil => exact absurd rfl h5
        | cons f r => simp
      rw [if_pos (.inl h4), if_neg (by omega)] at hn
      obtain ⟨k1, L', wr', k2, k3⟩ := h.put hok f q (t + 1) L.tail (wr + 1) hq (by omega) (by omega) hL.tail (by omega)
      refine ⟨fun _ => ⟨hok _ _ _ (by omega), fun _ _ => ?_, fun e1 e2 _ => ?_⟩, L', wr', hn.trans k2, k3⟩
      · rw [hw]; exact k1
      · rw [hw] at e2; simp only at e2; omega
end Go.Proofs.Ytknpghmcacocfaa

/- The law's example; num; kernels of one file. -/
namespace Go.Proofs.Ytknpghmcacocfaa
open Go.RowKit Go.Maps

theorem num_re (x : Int) (w : World) : Calls Try.prog 25 #[.int .i64 x] w fun e w' => e = .returned (.int .i64 x) ∧ w = w' := by
  go_enter Try.func25, Try.ntmps25
  go_wp2
  go_ret
  exact ⟨rfl, rfl⟩
/-- One file, one description of it to read. -/
def KOne (nm : ByteArray) (b : List UInt8) (p : Nat) (L : List Fault) (rd : Nat) : KS := ⟨[⟨nm, .file b⟩], [0], [⟨1, 0, 1, p, 1⟩], 2, L, rd, 0⟩
theorem one_read (nm : ByteArray) (b : List UInt8) : RdV (kerD 1) b (KOne nm b) where
  read p L rd n hp hL h1 h2 := by
    have hx : (KOne nm b p L rd).find 1 = some ⟨1, 0, 1, p, 1⟩ := rfl
    have n1 : (1 : Int) ≤ (n : Int) := by omega
    have n2 : (n : Int) ≤ 1048576 := by omega
    show ∃ Y E, (KOne nm b p L rd).read 1 (n : Int) = _ ∧ _
    rw [read_is hx (by show fbit 1 1 ≠ 0; decide) n1 n2 rfl]
    rw [show (KOne nm b p L rd).plan = L from rfl]
    rcases nxt_err (l := L) n1 n2 with e | e | e
    · rw [if_pos e]
      have hg := nxt_good hL n1 n2 e
      refine ⟨piece b p (nxt L n).1.toNat, 0, rfl, take_piece hp, ?_, ?_, .inl ⟨rfl, fun hlt h0 => ?_⟩⟩
      · rw [piece_len]; omega
      · rw [piece_len]; omega
      · have := congrArg List.length h0
        rw [piece_len] at this
        simp at this
        omega
    · rw [if_neg (by omega), e]
      refine ⟨[], 22, rfl, by simp, by simpa using hp, by simp, .inr ⟨.inl rfl, rfl, fun hn => ?_⟩⟩
      subst hn
      rw [nxt_nil n1 n2] at e
      cases e
    · rw [if_neg (by omega), e]
      refine ⟨[], 23, rfl, by simp, by simpa using hp, by simp, .inr ⟨.inr rfl, rfl, fun hn => ?_⟩⟩
      subst hn
      rw [nxt_nil n1 n2] at e
      cases e
theorem one_ok (nm : ByteArray) (b : List UInt8) : ∀ p L r, r < 9223372036854775807 → kerR (KOne nm b p L r) := fun _ _ _ h => h
def exR : List Fault := [(1, 1), (2, 0), (3, 0), (1, 2)]
theorem exl_ok : planOk exR := ⟨by decide, by decide⟩
theorem exo : (KS.new [(⟨#[97]⟩, [104, 101, 108, 108, 111])] [] exR).open ⟨#[97]⟩ 1 = (1, 0, KOne ⟨#[97]⟩ [104, 101, 108, 108, 111] 0 exR 0) := rfl
theorem exc8 : checkE [(⟨#[97]⟩, [104, 101, 108, 108, 111])] [] exR = 0 := by rfl
theorem ex_all : allOk (kerD 1) kerR 5 5 (KOne ⟨#[97]⟩ [104, 101, 108, 108, 111] 0 exR 0) [] ∧ ∃ K', allV (kerD 1) 5 5 (KOne ⟨#[97]⟩ [104, 101, 108, 108, 111] 0 exR 0) [] = ([104, 101, 108, 108, 111], 0, K') := by
  obtain ⟨h1, Y, L', rd', h2, h3, h4, h5, h6, -⟩ := (one_read ⟨#[97]⟩ [104, 101, 108, 108, 111]).all (one_ok _ _) 5 (by decide) 5 0 [] exR 0 (by decide) (by decide) (by decide) exl_ok (by decide)
  have hl : Y.length = 5 := by simp at h4 h5 h6; omega
  have hY : Y = [104, 101, 108, 108, 111] := by rw [hl] at h3; simpa using h3
  exact ⟨h1, _, by rw [h2, List.nil_append, hY]⟩
set_option maxRecDepth 100000 in
set_option maxHeartbeats 4000000 in
theorem ralive_any (w : World) : Calls Try.prog 24 #[] w fun e w' => e = .returned (.bool true) ∧ Below w.heap.size w w' := by
  have cl := conv_lit w #[.int .u8 104, .int .u8 101, .int .u8 108, .int .u8 108, .int .u8 111] 5 w.heap.size 5 rfl rfl
  simp only [Nat.reduceAdd] at cl
  have hb1 := Te_lit_bys w [104, 101, 108, 108, 111] #[.int .u8 104, .int .u8 101, .int .u8 108, .int .u8 108, .int .u8 111] 5 w.heap.size (5, 6) rfl rfl rfl
  have hB1 := recv_below w (Obj.cells #[.int .u8 104, .int .u8 101, .int .u8 108, .int .u8 108, .int .u8 111] 5 (5, 6))
  have hs1 : (w.alloc (Obj.cells #[.int .u8 104, .int .u8 101, .int .u8 108, .int .u8 108, .int .u8 111] 5 (5, 6))).heap.size = w.heap.size + 1 := by simp
  go_enter Try.func24, Try.ntmps24
  go_wp2_with fail
  generalize hw1 : w.alloc (Obj.cells #[.int .u8 104, .int .u8 101, .int .u8 108, .int .u8 108, .int .u8 111] 5 (5, 6)) = w1 at *
  obtain ⟨w2, hw2⟩ : ∃ w2, w2 = w1.alloc (Obj.cells #[.string ⟨#[97]⟩, .slice (some ⟨w.heap.size, 0, none⟩) 5 5] 30) := ⟨_, rfl⟩
  have hB2 := recv_below w1 (Obj.cells #[.string ⟨#[97]⟩, .slice (some ⟨w.heap.size, 0, none⟩) 5 5] 30)
  obtain ⟨p0, p1⟩ := pair_cells w1 (.string ⟨#[97]⟩) (.slice (some ⟨w.heap.size, 0, none⟩) 5 5) 30
  rw [← hw2] at hB2 p0 p1 ⊢
  rw [hs1] at p0 p1
  have hs2 : w2.heap.size = w.heap.size + 1 + 1 := by rw [hw2]; simp [hs1]
  have hB3 := recv_below w2 (Obj.cells #[.int .i64 1, .int .i64 1, .int .i64 2, .int .i64 0, .int .i64 3, .int .i64 0, .int .i64 1, .int .i64 2] 123)
  have hfl := heap_alloc_new w2 (Obj.cells #[.int .i64 1, .int .i64 1, .int .i64 2, .int .i64 0, .int .i64 3, .int .i64 0, .int .i64 1, .int .i64 2] 123)
  rw [hs2] at hfl
  have hs3 : (w2.alloc (Obj.cells #[.int .i64 1, .int .i64 1, .int .i64 2, .int .i64 0, .int .i64 3, .int .i64 0, .int .i64 1, .int .i64 2] 123)).heap.size = w.heap.size + 1 + 1 + 1 := by simp [hs2]
  generalize w2.alloc (Obj.cells #[.int .i64 1, .int .i64 1, .int .i64 2, .int .i64 0, .int .i64 3, .int .i64 0, .int .i64 1, .int .i64 2] 123) = w3 at *
  have hN : Nms w3 (.slice (some ⟨w.heap.size + 1, 0, none⟩) 1 1) [(⟨#[97]⟩, [104, 101, 108, 108, 111])] :=
    one_named ((hB3.cell (p := ⟨w.heap.size + 1, 0, none⟩) (by show w.heap.size + 1 < _; omega)).trans p0) ((hB3.cell (p := ⟨w.heap.size + 1, 1, none⟩) (by show w.heap.size + 1 < _; omega)).trans p1) ((hb1.below hB2).below hB3) (by decide) (by decide)
  have hF : Flts w3 (.slice (some ⟨w.heap.size + 1 + 1, 0, none⟩) 4 4) exR := by
    refine .inr (.inr ⟨w.heap.size + 1 + 1, 0, 4, rfl, by decide, by decide, fun j hj => ?_⟩)
    have : j = 0 ∨ j = 1 ∨ j = 2 ∨ j = 3 := by simp [exR] at hj; omega
    rcases this with rfl | rfl | rfl | rfl
    all_goals constructor <;> (simp only [World.cell?, hfl]; rfl)
  have hBw : Below w.heap.size w w3 := hB1.trans ((hB2.trans (hB3.mono (by omega))).mono (by omega))
  have HN := hide (knew_good (some ⟨w.heap.size + 1, 0, none⟩) none (some ⟨w.heap.size + 1 + 1, 0, none⟩) 1 0 4 [(⟨#[97]⟩, [104, 101, 108, 108, 111])] [] exR _ hN (no_typed _) hF (by decide) (by decide) (by decide) exc8)
  have HB := hide hBw
  clear hN hF hfl p0 p1 hB1 hB2 hB3 hb1 hBw cl hw1 hw2 hs1 hs2 hs3
  refine HN.out.mono ?_
  rintro e w4 ⟨kb, rfl, hK, hB4⟩
  have hB4w := HB.out.trans (hB4.mono HB.out.size)
  have HB4 := hide hB4w
  have hs4 := hB4w.size
  have HO := hide ((hK.mono (fun k e => Nat.le_trans HB.out.size e)).open ⟨#[97]⟩ 1 (by decide) (by show (1 : Nat) < 9223372036854775807; decide))
  rw [exo] at HO
  clear hK hB4 hB4w HN HB
  go_wp2_with (first | (go_at_call 25; refine (num_re _ _).mono ?_; rintro _ _ ⟨rfl, rfl⟩) | fail)
  refine HO.out.mono ?_
  rintro e w5 ⟨rfl, hS⟩
  obtain ⟨hK, hB⟩ := hS.at (B := w.heap.size) (fun _ e => e) hs4
  have HB5 := hide (HB4.out.trans hB)
  have hs5 := HB5.out.size
  obtain ⟨hA1, K', hA2⟩ := ex_all
  have HA := hide (all_any (ker_raw kb 1 ⟨by decide, by decide⟩) 5 hK (fun j e => e.2) (by decide) (by decide) hA1)
  rw [hA2] at HA
  clear hK hB hS HO HB4 hs4 hA1 hA2
  go_wp2_with fail
  refine HA.out.mono ?_
  rintro e w6 ⟨v, rfl, hO6, hK6, hT6⟩
  obtain ⟨ca, cc, rfl⟩ := owns_slice hO6
  have HE : Hid ((convert 22 9 (.slice ca 5 cc)).run Try.prog w6 = .ok (.string ⟨#[104, 101, 108, 108, 111]⟩) w6 ∧ Below w.heap.size w w6) := hide ⟨owns_string (l := [104, 101, 108, 108, 111]) hO6, HB5.out.trans (hT6.below (fun j e => e.1) hs5)⟩
  clear hO6 hK6 hT6
  simp only [List.length_cons, List.length_nil, Nat.zero_add, Nat.reduceAdd]
  have hc := HE.out.1
  go_wp2_with (first | (go_at_call 25; refine (num_re _ _).mono ?_; rintro _ _ ⟨rfl, rfl⟩) | fail)
  go_ret
  exact ⟨rfl, HE.out.2⟩
end Go.Proofs.Ytknpghmcacocfaa

/- A pipe with both ends, the page's example, and a pipe that no call made. -/
namespace Go.Proofs.Ytknpghmcacocfaa
open Go.RowKit

theorem made_cells (n : Nat) : (madeCells (Value.int .u8 0).cells (n * 1)).toList = List.replicate n (.int .u8 0) := by
  apply List.ext_getElem?
  intro j
  by_cases hj : j < n
  · simp [madeCells, Value.cells, hj, Nat.mod_one]
  · simp [madeCells, Value.cells, hj]
theorem made_zeros {w w1 : World} {n : Nat} (h : w1.ownsRow w.heap.size 5 1 (.slice (some ⟨w.heap.size, 0, none⟩) n n) n (madeCells (Value.int .u8 0).cells (n * 1)).toList) (hg : w.grownBy w1 none) :
    ∃ Z : List UInt8, Z.length = n ∧ Hid (Bys w1 (.slice (some ⟨w.heap.size, 0, none⟩) n n) Z) ∧ Below w.heap.size w w1 := by
  refine ⟨List.replicate n 0, by simp, ?_, (Below.refl _ w).grown hg (Nat.le_refl _) (fun k e => by cases e)⟩
  rw [made_cells] at h
  refine Bys.of_owns (base := w.heap.size) ?_
  simpa [bv] using h

/-- What stays when a pipe that lies above turns. -/
theorem Turned.up {B g : Nat} {w0 w w' : World} (hB : Below B w0 w) (hT : Turned (fun k => k = g) w w') (hg : B ≤ g) (hs : B ≤ w.heap.size) : Below B w0 w' := hB.trans (hT.below (fun k e => by omega) hs)


end Go.Proofs.Ytknpghmcacocfaa

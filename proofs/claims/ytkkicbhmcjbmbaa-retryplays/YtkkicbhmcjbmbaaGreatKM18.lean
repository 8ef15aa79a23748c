/- What the proof stands on, part 18: the contracts of the program's calls that it reaches. -/
import Derived.Test.YtkkicbhmcjbmbaaGreatKM17
import Derived.Test.YtkkicbhmcjbmbaaGreatRows
import Derived.Shelf.SlIter.Nil
import Derived.Shelf.SortM.Plain
import Derived.Shelf.SortM.SortNone
import Derived.Ground.GgzProg
import Derived.Ground.SlgmProg
import Derived.Test.YtkkicbhmcjbmbaaGreatProg
/- Contracts of Go's library on the keys of a map, sorted, at this dump, laid by the kit's own command. -/
namespace Go.Proofs
open Go.RowKit Go.Maps Go.Sort Go.Shelf
def Tryz.keys154_ren : Go.Shelf.Ren := ⟨fun | 7 => 154 | 10 => 181 | n => n, fun | 23 => 86 | 26 => 9 | 3 => 94 | 28 => 246 | 0 => 0 | 27 => 245 | 33 => 108 | 4 => 4 | n => n, fun | n => n⟩
theorem Tryz.keys154 : Go.Proofs.SlLaysZ.n7 Tryz.prog Tryz.keys154_ren := {
  mixed := by kernel_rfl
  f7 := ⟨Tryz.f154.name, by decide, Tryz.func154.trans (congrArg some (by kernel_rfl))⟩
  f10 := ⟨Tryz.f181.name, by decide, Tryz.func181.trans (congrArg some (by kernel_rfl))⟩
  t0 := Tryz.underlying0
  a0 := Tryz.isAgg0
  z0 := Tryz.sizeOf0
  v0 := Tryz.zeroValue0
  t4 := Tryz.underlying4
  a4 := Tryz.isAgg4
  z4 := Tryz.sizeOf4
  v4 := Tryz.zeroValue4
  t23 := Tryz.underlying86
  a23 := Tryz.isAgg86
  z23 := Tryz.sizeOf86
  v23 := Tryz.zeroValue86
  t26 := Tryz.underlying9
  a26 := Tryz.isAgg9
  z26 := Tryz.sizeOf9
  v26 := Tryz.zeroValue9
  t27 := Tryz.underlying245
  a27 := Tryz.isAgg245
  z27 := Tryz.sizeOf245
  v27 := Tryz.zeroValue245
  t28 := Tryz.underlying246
  a28 := Tryz.isAgg246
  z28 := Tryz.sizeOf246
  v28 := Tryz.zeroValue246
  t33 := Tryz.underlying108
  a33 := Tryz.isAgg108
  z33 := Tryz.sizeOf108
  v33 := Tryz.zeroValue108 }
def Tryz.sorted153_ren : Go.Shelf.Ren := ⟨fun | 6 => 153 | 8 => 179 | 9 => 180 | 11 => 187 | 13 => 189 | 12 => 188 | 23 => 199 | 24 => 200 | 14 => 190 | 15 => 191 | 16 => 192 | 17 => 193 | 18 => 194 | 19 => 195 | 20 => 196 | 21 => 197 | 22 => 198 | 25 => 201 | 26 => 202 | 27 => 203 | 28 => 204 | 29 => 205 | 30 => 206 | 31 => 207 | n => n, fun | 26 => 9 | 28 => 246 | 24 => 107 | 0 => 0 | 3 => 3 | 37 => 281 | 48 => 292 | 50 => 294 | 4 => 4 | 40 => 285 | 39 => 284 | 45 => 235 | 5 => 5 | 9 => 9 | 51 => 295 | 55 => 267 | 57 => 300 | 58 => 67 | 33 => 108 | n => n, fun | n => n⟩
theorem Tryz.sorted153 : Go.Proofs.SlLaysZ.n6 Tryz.prog Tryz.sorted153_ren := {
  mixed := by kernel_rfl
  f6 := ⟨Tryz.f153.name, by decide, Tryz.func153.trans (congrArg some (by kernel_rfl))⟩
  f8 := ⟨Tryz.f179.name, by decide, Tryz.func179.trans (congrArg some (by kernel_rfl))⟩
  f11 := ⟨Tryz.f187.name, by decide, Tryz.func187.trans (congrArg some (by kernel_rfl))⟩
  t0 := Tryz.underlying0
  a0 := Tryz.isAgg0
  z0 := Tryz.sizeOf0
  v0 := Tryz.zeroValue0
  t24 := Tryz.underlying107
  a24 := Tryz.isAgg107
  z24 := Tryz.sizeOf107
  v24 := Tryz.zeroValue107
  t26 := Tryz.underlying9
  a26 := Tryz.isAgg9
  z26 := Tryz.sizeOf9
  v26 := Tryz.zeroValue9
  t28 := Tryz.underlying246
  a28 := Tryz.isAgg246
  z28 := Tryz.sizeOf246
  v28 := Tryz.zeroValue246
  i26 := by kernel_rfl }
def Tryz.sort180_ren : Go.Shelf.Ren := ⟨fun | 6 => 180 | 8 => 189 | 9 => 188 | 19 => 199 | 20 => 200 | 21 => 190 | 22 => 191 | 23 => 192 | 24 => 193 | 25 => 194 | 26 => 195 | 27 => 196 | 28 => 197 | 29 => 198 | 36 => 201 | 31 => 202 | 32 => 203 | 37 => 204 | 38 => 205 | 39 => 206 | 41 => 207 | n => n, fun | 27 => 107 | 29 => 9 | 3 => 3 | 32 => 281 | 26 => 107 | 0 => 0 | 44 => 292 | 46 => 294 | 4 => 4 | 36 => 285 | 35 => 284 | 41 => 235 | 5 => 5 | 9 => 9 | 53 => 295 | 57 => 267 | 63 => 300 | 64 => 67 | n => n, fun | n => n⟩
theorem Tryz.sort180 : Go.Proofs.SlLaysM.n6 Tryz.prog Tryz.sort180_ren := {
  mixed := by kernel_rfl
  f6 := ⟨Tryz.f180.name, by decide, Tryz.func180.trans (congrArg some (by kernel_rfl))⟩
  f8 := Tryz.func189.trans (congrArg some (by kernel_rfl))
  f9 := ⟨Tryz.f188.name, by decide, Tryz.func188.trans (congrArg some (by kernel_rfl))⟩
  f19 := Tryz.func199.trans (congrArg some (by kernel_rfl))
  f20 := Tryz.func200.trans (congrArg some (by kernel_rfl))
  f21 := ⟨Tryz.f190.name, by decide, Tryz.func190.trans (congrArg some (by kernel_rfl))⟩
  f22 := ⟨Tryz.f191.name, by decide, Tryz.func191.trans (congrArg some (by kernel_rfl))⟩
  f23 := ⟨Tryz.f192.name, by decide, Tryz.func192.trans (congrArg some (by kernel_rfl))⟩
  f24 := ⟨Tryz.f193.name, by decide, Tryz.func193.trans (congrArg some (by kernel_rfl))⟩
  f25 := ⟨Tryz.f194.name, by decide, Tryz.func194.trans (congrArg some (by kernel_rfl))⟩
  f26 := ⟨Tryz.f195.name, by decide, Tryz.func195.trans (congrArg some (by kernel_rfl))⟩
  f27 := ⟨Tryz.f196.name, by decide, Tryz.func196.trans (congrArg some (by kernel_rfl))⟩
  f28 := ⟨Tryz.f197.name, by decide, Tryz.func197.trans (congrArg some (by kernel_rfl))⟩
  f29 := ⟨Tryz.f198.name, by decide, Tryz.func198.trans (congrArg some (by kernel_rfl))⟩
  f31 := Tryz.func202.trans (congrArg some (by kernel_rfl))
  f32 := Tryz.func203.trans (congrArg some (by kernel_rfl))
  f36 := ⟨Tryz.f201.name, by decide, Tryz.func201.trans (congrArg some (by kernel_rfl))⟩
  f37 := ⟨Tryz.f204.name, by decide, Tryz.func204.trans (congrArg some (by kernel_rfl))⟩
  f38 := ⟨Tryz.f205.name, by decide, Tryz.func205.trans (congrArg some (by kernel_rfl))⟩
  f39 := ⟨Tryz.f206.name, by decide, Tryz.func206.trans (congrArg some (by kernel_rfl))⟩
  f41 := ⟨Tryz.f207.name, by decide, Tryz.func207.trans (congrArg some (by kernel_rfl))⟩
  t0 := Tryz.underlying0
  a0 := Tryz.isAgg0
  z0 := Tryz.sizeOf0
  v0 := Tryz.zeroValue0
  t3 := Tryz.underlying3
  a3 := Tryz.isAgg3
  z3 := Tryz.sizeOf3
  v3 := Tryz.zeroValue3
  t4 := Tryz.underlying4
  a4 := Tryz.isAgg4
  z4 := Tryz.sizeOf4
  v4 := Tryz.zeroValue4
  t5 := Tryz.underlying5
  a5 := Tryz.isAgg5
  z5 := Tryz.sizeOf5
  v5 := Tryz.zeroValue5
  t9 := Tryz.underlying9
  a9 := Tryz.isAgg9
  z9 := Tryz.sizeOf9
  v9 := Tryz.zeroValue9
  t26 := Tryz.underlying107
  a26 := Tryz.isAgg107
  z26 := Tryz.sizeOf107
  v26 := Tryz.zeroValue107
  t27 := Tryz.underlying107
  a27 := Tryz.isAgg107
  z27 := Tryz.sizeOf107
  v27 := Tryz.zeroValue107
  t29 := Tryz.underlying9
  a29 := Tryz.isAgg9
  z29 := Tryz.sizeOf9
  v29 := Tryz.zeroValue9
  t32 := Tryz.underlying281
  a32 := Tryz.isAgg281
  z32 := Tryz.sizeOf281
  v32 := Tryz.zeroValue281
  t35 := Tryz.underlying284
  a35 := Tryz.isAgg284
  z35 := Tryz.sizeOf284
  v35 := Tryz.zeroValue284
  t36 := Tryz.underlying285
  a36 := Tryz.isAgg285
  z36 := Tryz.sizeOf285
  v36 := Tryz.zeroValue285
  t41 := Tryz.underlying235
  a41 := Tryz.isAgg235
  z41 := Tryz.sizeOf235
  v41 := Tryz.zeroValue235
  t44 := Tryz.underlying292
  a44 := Tryz.isAgg292
  z44 := Tryz.sizeOf292
  v44 := Tryz.zeroValue292
  t46 := Tryz.underlying294
  a46 := Tryz.isAgg294
  z46 := Tryz.sizeOf294
  v46 := Tryz.zeroValue294
  t53 := Tryz.underlying295
  a53 := Tryz.isAgg295
  z53 := Tryz.sizeOf295
  v53 := Tryz.zeroValue295
  t57 := Tryz.underlying267
  a57 := Tryz.isAgg267
  z57 := Tryz.sizeOf267
  v57 := Tryz.zeroValue267
  t63 := Tryz.underlying300
  a63 := Tryz.isAgg300
  z63 := Tryz.sizeOf300
  v63 := Tryz.zeroValue300
  t64 := Tryz.underlying67
  a64 := Tryz.isAgg67
  z64 := Tryz.sizeOf67
  v64 := Tryz.zeroValue67 }

theorem Tryz.sorts153 (m : Nat) : AnyZ.SortsIn Tryz.prog Tryz.sorted153_ren Fence.wide m :=
  ⟨fun blk off cap ss W hH hblk hsz => callsIn_wide.2 (AnyM.slices_Sort_string Tryz.sort180 blk off cap ss W hH hblk hsz),
   fun p cap W => callsIn_wide.2 (AnyM.slices_Sort_string_none Tryz.sort180 p cap W)⟩
theorem Tryz.maps_Keys_154 (mb : Option Nat) (W : World) : CallsIn Fence.wide 5 Tryz.prog 154 #[.map mb] W fun e w' => e = .returned (.func (.func 181) #[] #[.pointer (some ⟨W.heap.size, 0, none⟩)]) ∧ w' = W.alloc (.cells #[.map mb] 86) :=
  AnyZ.keys_in Tryz.keys154 Fence.wide 5 trivial rfl mb W
set_option maxHeartbeats 1000000 in
theorem Tryz.slices_Sorted_keys_153_154 {H : Type} (b nn : Nat) (D0 : DataW H) (R : Value → Option (DataW H × List MemPlace)) (w : World) (hown : w.ownsMap Tryz.prog 9 R b nn D0) (hmax : Maps.size D0 ≤ maxLen) (hbytes : Maps.size D0 * 16 ≤ 140737488355328) :
    CallsIn Fence.wide 5 Tryz.prog 153 #[.func (.func 181) #[] #[.pointer (some ⟨w.heap.size, 0, none⟩)]] (w.alloc (.cells #[.map (some b)] 86)) fun e w' => ∃ (v : Value) (ss : List (List UInt8)), e = .returned v ∧ ss.Perm (strKeys D0) ∧
      w'.ownsRow (w.alloc (.cells #[.map (some b)] 86)).heap.size 9 1 v ss.length ((ss.mergeSort (fun x y => decide (x ≤ y))).map encStr) ∧ (v = .slice none 0 0 ↔ ss = []) ∧ Below (w.alloc (.cells #[.map (some b)] 86)).heap.size (w.alloc (.cells #[.map (some b)] 86)) w' := by
  have hbl := hown.lt
  have hseq : SeqGives Fence.wide 2 Tryz.prog 181 #[.pointer (some ⟨w.heap.size, 0, none⟩)] encStr (fun ss => ss.Perm (strKeys D0)) (Maps.size D0) (w.alloc (.cells #[.map (some b)] 86)) :=
    AnyZ.keys_gives (ρ := Tryz.keys154_ren) { Tryz.keys154 with } Fence.wide _ trivial rfl (by omega) w.heap.size b nn D0 _ (by simp) (by simp) (by
      obtain ⟨es, clock, hb, Ft, hs, hD⟩ := hown
      exact ⟨es, clock, (Below.heap_alloc _ _ b hbl).trans hb, Ft, hs, hD⟩)
  exact AnyZ.sorted_in Tryz.sorted153 Fence.wide 5 trivial trivial trivial trivial rfl (by omega) (Tryz.sorts153 _) (enters_of Tryz.func180 (by kernel_rfl) rfl) 181 #[.pointer (some ⟨w.heap.size, 0, none⟩)] trivial (enters_of Tryz.func181 (by kernel_rfl) rfl) _ _ hmax hbytes _ hseq
set_option maxHeartbeats 1000000 in
theorem Tryz.slices_Sorted_keys_nil_153_154 (w : World) :
    CallsIn Fence.wide 5 Tryz.prog 153 #[.func (.func 181) #[] #[.pointer (some ⟨w.heap.size, 0, none⟩)]] (w.alloc (.cells #[.map none] 86)) fun e w' => ∃ (v : Value) (ss : List (List UInt8)), e = .returned v ∧ ss = [] ∧
      w'.ownsRow (w.alloc (.cells #[.map none] 86)).heap.size 9 1 v ss.length ((ss.mergeSort (fun x y => decide (x ≤ y))).map encStr) ∧ (v = .slice none 0 0 ↔ ss = []) ∧ Below (w.alloc (.cells #[.map none] 86)).heap.size (w.alloc (.cells #[.map none] 86)) w' := by
  have hseq : SeqGives Fence.wide 2 Tryz.prog 181 #[.pointer (some ⟨w.heap.size, 0, none⟩)] encStr (fun ss : List (List UInt8) => ss = []) 0 (w.alloc (.cells #[.map none] 86)) :=
    AnyZ.keys_gives_nil (ρ := Tryz.keys154_ren) { Tryz.keys154 with } Fence.wide _ trivial rfl w.heap.size _ (by simp) (by simp)
  exact AnyZ.sorted_in Tryz.sorted153 Fence.wide 5 trivial trivial trivial trivial rfl (by omega) (Tryz.sorts153 _) (enters_of Tryz.func180 (by kernel_rfl) rfl) 181 #[.pointer (some ⟨w.heap.size, 0, none⟩)] trivial (enters_of Tryz.func181 (by kernel_rfl) rfl) _ 0 (Nat.zero_le _) (by omega) _ hseq
end Go.Proofs

/- Files: all files by name. -/
namespace Go.Proofs.YtkkicbhmcjbmbaaGreat
open Go.RowKit Go.Maps

/-- A file's bytes. -/
def Ob.bytes : Ob → List UInt8
  | .file b => b
  | _ => []
/-- All files, by name. -/
def KS.files (K : KS) : List Nm := K.fidx.map fun i => (K.nameOf i, (K.obOf i).bytes)
def fnames (K : KS) : List (List UInt8) := K.fidx.map fun i => (K.nameOf i).data.toList
theorem fnames_sorted {K : KS} (h : KNm K) : (fnames K).Pairwise (fun a b => leB a b = true) := by
  unfold fnames KS.fidx
  refine List.pairwise_map.2 ?_
  refine ((h.sorted.filter _).imp fun {a b} hab => ?_)
  exact decide_eq_true (List.le_of_lt hab)
theorem keys_are {K : KS} (h : KNm K) {ss : List (List UInt8)} (hp : ss.Perm (fnames K)) : ss.mergeSort (fun x y => decide (x ≤ y)) = fnames K := by
  show ss.mergeSort leB = _
  rw [mergeSort_of_perm hp]
  exact List.mergeSort_of_pairwise (fnames_sorted h)
theorem fl_strs (K : KS) (I : PI) : ((K.fl I).map fun p => strOf p.1) = fnames K := by
  unfold KS.fl fnames
  rw [List.map_map]
  rfl
theorem sorted_any {w : World} {ρ : Nat → Option PTag} {I : PI} {K : KS} (h : PK w ρ I K) :
    Calls Tryz.prog 153 #[.func (.func 181) #[] #[.pointer (some ⟨w.heap.size, 0, none⟩)]] (w.alloc (.cells #[.map (some I.fm)] 86)) fun e w' => ∃ v, e = .returned v ∧ w'.ownsRow (w.alloc (.cells #[.map (some I.fm)] 86)).heap.size 9 1 v (fnames K).length ((fnames K).map encStr) ∧ Below (w.alloc (.cells #[.map (some I.fm)] 86)).heap.size (w.alloc (.cells #[.map (some I.fm)] 86)) w' := by
  obtain ⟨D, h1, h2, h3⟩ := (h.comp .fmap).1.keys skeyed Tryz.underlying9
  have hfew : (K.fl I).length ≤ 256 := by
    have := h.ok.named
    have h4 : (K.fl I).length ≤ K.nm.length := by unfold KS.fl KS.fidx; simpa using List.length_filter_le _ _
    omega
  rw [fl_strs] at h3
  refine (callsIn_wide.1 (Tryz.slices_Sorted_keys_153_154 I.fm _ D ptrElem w h1 (by unfold maxLen; omega) (by omega))).mono ?_
  rintro e w' ⟨v, ss, rfl, hS, hrow, -, hb⟩
  have hp := hS.trans h3
  rw [keys_are h.nm hp, hp.length_eq] at hrow
  exact ⟨v, rfl, hrow, hb⟩
theorem kbytes_any (O : Nat → Prop) (p : Nat) (b : List UInt8) (w : World) (h : PObj w O p (.file b)) :
    Calls Tryz.prog 155 #[.pointer (some ⟨p, 0, none⟩)] w fun e w' => ∃ v, e = .returned v ∧ w'.ownsRow w.heap.size 5 1 v b.length (b.map bv) ∧ Below w.heap.size w w' :=
  (po_fbytes O p b w h).mono fun _ _ ⟨a, b, c⟩ => ⟨_, a, b, c⟩
theorem name_few {s : ByteArray} (h : nameOk s = true) : s.size ≤ 64 := by
  unfold nameOk at h
  simp only [Bool.and_eq_true, decide_eq_true_eq] at h
  exact h.2.1
theorem file_at {K : KS} (h : KOk K) {k : Nat} (hk : k < (fnames K).length) : ∃ i L, i ∈ K.nm ∧ i < K.th.length ∧ K.obOf i = .file L ∧ (fnames K)[k]? = some (K.nameOf i).data.toList ∧ K.files[k]? = some (K.nameOf i, L) := by
  have hk' : k < K.fidx.length := by simpa [fnames] using hk
  have hm := List.mem_filter.1 (List.getElem_mem hk')
  have hkind : (K.obOf K.fidx[k]).kind = 1 := by simpa using hm.2
  cases ho : K.obOf K.fidx[k] with
  | file L =>
    refine ⟨K.fidx[k], L, hm.1, h.nm _ hm.1, ho, ?_, ?_⟩
    · simp [fnames, hk']
    · simp [KS.files, hk', ho, Ob.bytes]
  | term ls scr => rw [ho] at hkind; cases hkind
  | pipe q rd wt => rw [ho] at hkind; cases hkind
theorem names_cell {W : World} {va : Option Addr} {vc N k : Nat} {ns : List (List UInt8)} {s : ByteArray} (h : W.ownsRow 0 9 1 (.slice va N vc) N (ns.map encStr)) (hk : k < N) (hs : ns[k]? = some s.data.toList) : ∃ vb, va = some ⟨vb, 0, none⟩ ∧ W.cell? ⟨vb, k, none⟩ = some (.string s) := by
  have hx := h
  rcases h.2 with ⟨e, _⟩ | ⟨g, cap, cur, e, _⟩
  · simp only [Value.slice.injEq] at e; omega
  · simp only [Value.slice.injEq] at e
    obtain ⟨rfl, _, rfl⟩ := e
    refine ⟨g, rfl, ?_⟩
    rw [hx.cellAt k (by omega), List.getElem?_map, hs]
    simp [encStr]
theorem kkeys_any (mb : Option Nat) (W : World) : Calls Tryz.prog 154 #[.map mb] W fun e w' => e = .returned (.func (.func 181) #[] #[.pointer (some ⟨W.heap.size, 0, none⟩)]) ∧ w' = W.alloc (.cells #[.map mb] 86) := callsIn_wide.1 (Tryz.maps_Keys_154 mb W)
set_option maxRecDepth 100000 in
set_option maxHeartbeats 4000000 in
theorem kfiles_any (ρ : Nat → Option PTag) (I : PI) (K : KS) (w : World) (h : PK w ρ I K) :
    Calls Tryz.prog 66 #[.pointer (some ⟨I.kb, 0, none⟩)] w fun e w' => ∃ v us, e = .returned v ∧ w'.ownsRow w.heap.size 93 2 v K.files.length (ncs K.files us) ∧ LCells w' w.heap.size (K.files.map Prod.snd) us ∧ Below w.heap.size w w' := by
  have H := hide h
  have c0 := h.cells.made
  have c1 := h.cells.files
  have sl := (h.comp .fmap).1.len Tryz.underlying86
  have hflen : (K.fl I).length = (fnames K).length := by simp [KS.fl, fnames]
  obtain ⟨N, hN⟩ : ∃ N, N = (fnames K).length := ⟨_, rfl⟩
  rw [hflen, ← hN] at sl
  have HN := hide hN
  have HN9 : Hid (N ≤ 256) := hide (by
    have := h.ok.named
    have h4 : (K.fl I).length ≤ K.nm.length := by unfold KS.fl KS.fidx; simpa using List.length_filter_le _ _
    omega)
  obtain ⟨i0, hi, hz0, hz1, hz2⟩ := info_parts Tryz.infoN
  clear h hflen hN
  go_enter Tryz.func66, Tryz.ntmps66
  go_wp2_with fail
  refine (kmade_any I.kb w c0).mono ?_
  rintro e w1 ⟨rfl, rfl⟩
  go_wp2_with (at_make; refine wpList_make_own _ rfl _ _ 22 rfl w1.heap.size 93 i0 (.agg #[.string ByteArray.empty, .slice none 0 0]) 2 Tryz.underlying22 hi hz0 hz1 _ _ _ N rfl rfl rfl (by rw [hz2]; have := HN9.out; omega) (by have := HN9.out; unfold maxLen; omega) (Nat.le_refl _) ?_; intro w2 hown2 hgrow2; have HO2 := hide hown2; have HB2 : Hid (Below w1.heap.size w1 w2) := hide ((Below.refl _ w1).grown hgrow2 (Nat.le_refl _) (fun k e => by cases e)); have H2 := hide (H.out.under HB2.out); have c2 := H2.out.cells.files; clear hown2 hgrow2 c0 c1 sl)
  refine (kkeys_any _ _).mono ?_
  rintro _ _ ⟨rfl, rfl⟩
  go_wp2_with fail
  refine (sorted_any H2.out).mono ?_
  rintro e w3 ⟨v, rfl, hrow, hB3⟩
  obtain ⟨va, vc, rfl⟩ := owns_slice hrow
  have HRow := hide (owns_mono hrow (Nat.zero_le _))
  rw [← HN.out] at HRow ⊢
  have HB3 : Hid (Below w1.heap.size w1 w3) := hide (HB2.out.trans (((recv_below w2 _).trans (hB3.mono (recv_below w2 _).size)).mono HB2.out.size))
  have HO3 := hide (owns_below HO2.out ((recv_below w2 _).trans (hB3.mono (recv_below w2 _).size)))
  clear hrow hB3 c2
  go_wp2_with fail
  go_loopw [3, 22] (fun ov i wr => ∃ (k : Nat) (us : List Value), k ≤ N ∧ i = .int .i64 k ∧ Hid (wr.ownsRow w1.heap.size 93 2 ov k (ncs (K.files.take k) us)) ∧ Hid (LCells wr w1.heap.size ((K.files.take k).map Prod.snd) us) ∧ Hid (wr.ownsRow 0 9 1 (.slice va N vc) N ((fnames K).map encStr)) ∧ Hid (Below w1.heap.size w1 wr)) (fun _ i _ => N - (intOf i).toNat)
  case atStart => exact ⟨0, [], Nat.zero_le _, rfl, HO3, hide ⟨rfl, (fun j hj => by simp at hj), (fun i j vi vj m _ h1 => by simp at h1)⟩, HRow, HB3⟩
  case round =>
    obtain ⟨k, us, hk, rfl, HO, HL, HRw, HB⟩ := hrel
    obtain ⟨oa, oc, rfl⟩ := owns_slice HO.out
    clear HO3 HRow HB3 HO2 HB2 H2
    by_cases hlt : k < N
    · obtain ⟨i, L, hmem, hith, hobi, hfn, hfile⟩ := file_at H.out.ok (k := k) (by rw [← HN.out]; exact hlt)
      have hH := H.out.under HB.out
      have hHd := hH
      have hsz : (K.nameOf i).size ≤ maxLen := by have := name_few (H.out.nm.ok i hmem); unfold maxLen; omega
      have hlk := look_file hHd hsz hmem rfl (by rw [hobi]; rfl) false
      simp only [Bool.false_eq_true, if_false] at hlk
      have HOb : Hid (PObj wr (fun k => ρ k = some (.obj i)) (I.ob i) (.file L)) := hide (by have := hHd.comp (.obj i) hith; rw [← KS.obOf_eq hith, hobi] at this; exact this)
      have hc1 := hH.cells.files
      have hkb : I.kb < wr.heap.size := World.block_lt_of_cell? wr _ hc1
      have hkw : I.kb < w1.heap.size := World.block_lt_of_cell? w1 _ H.out.cells.files
      obtain ⟨vb, rfl, hcell⟩ := names_cell HRw.out hlt hfn
      have hk1 : (0 : Int) ≤ (k : Int) := by omega
      have hk2 : (k : Int) < (N : Int) := by omega
      have hNs := HN9.out
      have hBs := HB.out.size
      have hul := HL.out.1
      simp only [List.length_map, List.length_take] at hul
      have hkf : k < K.files.length := (List.getElem?_eq_some_iff.1 hfile).1
      rw [Nat.min_eq_left (by omega)] at hul
      have hl4 : L.length ≤ 1048576 := HOb.out.1
      have HPk := hide hfile
      generalize K.nameOf i = nm at *
      clear hfn hobi hH hHd hfile hsz
      go_wp2_with fail
      refine (kbytes_any _ (I.ob i) L _ HOb.out).mono ?_
      rintro e w4 ⟨u, rfl, hownu, hB4⟩
      obtain ⟨ua, uc, rfl⟩ := owns_slice hownu
      have hz4 : wr.heap.size ≤ w4.heap.size := hB4.size
      have hB04 : Below w1.heap.size w1 w4 := HB.out.trans (hB4.mono HB.out.size)
      have K4 : w4.cell? ⟨I.kb, 1, none⟩ = some (.map (some I.fm)) := (hB4.cell (p := ⟨I.kb, 1, none⟩) hkb).trans hc1
      have hBa : Below w4.heap.size w4 (w4.alloc (Obj.cells #[.string nm, .slice ua L.length uc] 93)) := (Below.refl _ _).alloc (Nat.le_refl _) _
      have Ka : (w4.alloc (Obj.cells #[.string nm, .slice ua L.length uc] 93)).cell? ⟨I.kb, 1, none⟩ = some (.map (some I.fm)) := (hBa.cell (p := ⟨I.kb, 1, none⟩) (Nat.lt_of_lt_of_le hkb hz4)).trans K4
      have hB0a := hB04.trans (hBa.mono hB04.size)
      have hB4a := hB4.trans (hBa.mono hB4.size)
      have HOa := hide (owns_below (W := wr) HO.out hB4a)
      have HLa := hide (LCells.below (W := wr) HL.out hB4a)
      have HUa := hide (owns_below hownu hBa)
      have hcu0 : (w4.alloc (Obj.cells #[.string nm, .slice ua L.length uc] 93)).cell? ⟨w4.heap.size, 0, none⟩ = some (.string nm) := (by simp only [World.cell?, heap_alloc_new]; rfl)
      have hcu1 : (w4.alloc (Obj.cells #[.string nm, .slice ua L.length uc] 93)).cell? ⟨w4.heap.size, 1, none⟩ = some (.slice ua L.length uc) := (by simp only [World.cell?, heap_alloc_new]; rfl)
      have hza := size_new w4 (Obj.cells #[.string nm, .slice ua L.length uc] 93)
      obtain ⟨s', w7, hrun, HO7, hg7, hb7⟩ := run_append_named (w4.alloc (Obj.cells #[.string nm, .slice ua L.length uc] 93)) 22 w1.heap.size _ k _ w4.heap.size 1 nm _ HOa.out hcu0 hcu1 rfl (by omega) (by omega)
      have HR := hide hrun
      have HX := hide hownu
      have K7 : w7.cell? ⟨I.kb, 1, none⟩ = some (.map (some I.fm)) := (World.cell?_of_block (w := w4.alloc (Obj.cells #[.string nm, .slice ua L.length uc] 93)) (a := ⟨I.kb, 1, none⟩) (hg7.block I.kb (by show I.kb < _; omega) (fun e => by have := (HOa.out.lt I.kb e.symm).1; omega))).trans Ka
      clear hrun hownu hcu0 hcu1
      go_wp2_with (first | (at_builtin; refine Lib.wpList_append_run _ rfl _ _ _ _ rfl _ _ rfl rfl _ _ HR.out ?_) | fail)
      all_goals
        go_roundw
        case rel =>
          have hLa : LCells w7 w1.heap.size ((K.files.take k).map Prod.snd) us := HLa.out.keep fun j hj v i h1 e => by
            obtain ⟨v', h2, h3⟩ := HLa.out.2.1 j hj
            rw [h1] at h2
            cases h2
            exact hg7.block i (h3.lt i e).2 (fun e' => Te_owns_apart h3 HOa.out (by decide) i e e'.symm)
          have hU7 := owns_keep (W' := w7) HUa.out fun i e => hg7.block i (HUa.out.lt i e).2 (fun e' => Te_owns_apart HUa.out HOa.out (by decide) i e e'.symm)
          refine ⟨k + 1, us ++ [.slice ua L.length uc], by omega, by go_num, ?_, ?_, hide ?_, hide (hB0a.grown hg7 hB0a.size (fun j e => (HOa.out.lt j e).1))⟩
          · have h8 := HO7.out
            rw [← ncs_snoc (K.files.take k) us (nm, L) _ (by simp; omega)] at h8
            rw [show K.files.take (k + 1) = K.files.take k ++ [(nm, L)] by rw [List.take_add_one, HPk.out]; rfl]
            exact h8
          · have h9 : k < (K.files.map Prod.snd).length := by rw [List.length_map]; exact (List.getElem?_eq_some_iff.1 HPk.out).1
            rw [List.map_take] at hLa ⊢
            refine LCells.snoc h9 hLa _ ?_ (fun j v i h1 e e' => ?_)
            · rw [List.getElem_map, (List.getElem?_eq_some_iff.1 HPk.out).2]
              exact owns_mono hU7 (by omega)
            · obtain ⟨v', h2, h3⟩ := HL.out.2.1 j (by have := (List.getElem?_eq_some_iff.1 h1).1; have := HL.out.1; omega)
              rw [h1] at h2
              cases h2
              have := (h3.lt i e).2
              have : wr.heap.size ≤ i := (HX.out.lt i e').1
              omega
          · exact owns_keep (owns_below HRw.out hB4a) fun i e => hg7.block i (Nat.lt_of_lt_of_le (HRw.out.lt i e).2 hB4a.size) (fun e' => Te_owns_apart (owns_below HRw.out hB4a) HOa.out (by decide) i e e'.symm)
        case measure => simp [intOf]; omega
    · have hke : k = K.files.length := by have := HN.out; simp only [fnames, KS.files, List.length_map] at *; omega
      go_wp2
      go_ret
      have h1 := HL.out
      have h2 := HO.out
      subst hke
      rw [List.take_length] at h1 h2
      exact ⟨_, us, rfl, h2, h1, HB.out⟩
end Go.Proofs.YtkkicbhmcjbmbaaGreat

/- KernPieces: the kernel's states, as values. -/
namespace Go.Proofs.YtkkicbhmcjbmbaaGreat
open Go.RowKit Go.Maps

def nmG : ByteArray := ⟨#[103]⟩
/-- Two files: one read, one written. -/
def KPc (b y : List UInt8) (p q : Nat) (L : List Fault) (rd wr : Nat) : KS := ⟨[⟨nmF, .file b⟩, ⟨nmG, .file y⟩], [0, 1], [⟨1, 0, 1, p, 1⟩, ⟨2, 1, 10, q, 1⟩], 3, L, rd, wr⟩
theorem pc_open1 (b : List UInt8) (l : List Fault) : (KS.new [(nmF, b)] [] l).open nmF 1 = (1, 0, ⟨[⟨nmF, .file b⟩], [0], [⟨1, 0, 1, 0, 1⟩], 2, l, 0, 0⟩) := rfl
theorem pc_open2 (b : List UInt8) (l : List Fault) : (⟨[⟨nmF, .file b⟩], [0], [⟨1, 0, 1, 0, 1⟩], 2, l, 0, 0⟩ : KS).open nmG 10 = (2, 0, KPc b [] 0 0 l 0 0) := rfl
theorem pc_read (b y : List UInt8) (p q : Nat) (L : List Fault) (rd wr : Nat) (n : Nat) (hp : p ≤ b.length) (hL : planOk L) (h1 : 1 ≤ n) (h2 : n ≤ 1048576) :
    ∃ Y E, (KPc b y p q L rd wr).read 1 (n : Int) = (Y, E, KPc b y (p + Y.length) q L.tail (rd + 1) wr) ∧ b.take p ++ Y = b.take (p + Y.length) ∧ p + Y.length ≤ b.length ∧ (E = 0 ∨ E = 22 ∨ E = 23) ∧ Y.length ≤ n ∧ (Y.length = 0 → p < b.length → L ≠ []) := by
  have hx : (KPc b y p q L rd wr).find 1 = some ⟨1, 0, 1, p, 1⟩ := rfl
  have n1 : (1 : Int) ≤ (n : Int) := by omega
  have n2 : (n : Int) ≤ 1048576 := by omega
  rw [read_is hx (by show fbit 1 1 ≠ 0; decide) n1 n2 rfl]
  rw [show (KPc b y p q L rd wr).plan = L from rfl]
  rcases nxt_err (l := L) n1 n2 with e | e | e
  · rw [if_pos e]
    have hg := nxt_good hL n1 n2 e
    refine ⟨piece b p (nxt L n).1.toNat, 0, rfl, take_piece hp, ?_, .inl rfl, ?_, ?_⟩
    · rw [piece_len]; omega
    · rw [piece_len]; omega
    · intro h0 hlt; rw [piece_len] at h0; omega
  · rw [if_neg (by omega), e]
    refine ⟨[], 22, rfl, by simp, by simpa using hp, by simp, by simp, fun _ _ hn => ?_⟩
    subst hn
    rw [nxt_nil n1 n2] at e
    cases e
  · rw [if_neg (by omega), e]
    refine ⟨[], 23, rfl, by simp, by simpa using hp, by simp, by simp, fun _ _ hn => ?_⟩
    subst hn
    rw [nxt_nil n1 n2] at e
    cases e
theorem wrL_more (x : List UInt8) (q m : Nat) (hq : q + m ≤ x.length) (hm : 1 ≤ m) (h2 : x.length ≤ 1048576) : wrL (x.take q) q ((x.drop q).take m) = x.take (q + m) := by
  unfold wrL
  have hl : ((x.drop q).take m).length = m := by rw [List.length_take, List.length_drop]; omega
  have hf : Fi_wrE q ((x.drop q).take m).length = 0 := wr_fits (at' := q) (by omega)
  rw [if_pos hf]
  have hne : (x.drop q).take m ≠ [] := by intro e; rw [e] at hl; simp at hl; omega
  have htl : (x.take q).length = q := by rw [List.length_take]; omega
  unfold lay grow
  simp only [hl, htl]
  have hd : (List.take q x ++ List.replicate (q + m - q) (0 : UInt8)).drop (q + m) = [] := List.drop_of_length_le (by rw [List.length_append, htl, List.length_replicate]; omega)
  rw [if_neg hne, Int.toNat_natCast, List.take_append_of_le_length (by omega), List.take_of_length_le (by omega), hd, List.append_nil, List.take_add]
theorem pc_write (b x : List UInt8) (p q : Nat) (L : List Fault) (rd wr : Nat) (hq : q < x.length) (h2 : x.length ≤ 1048576) (hL : planOk L) :
    ∃ (m : Nat) (E : Int), (KPc b (x.take q) p q L rd wr).write 2 (x.drop q) = ((m : Int), E, KPc b (x.take (q + m)) p (q + m) L.tail rd (wr + 1)) ∧ q + m ≤ x.length ∧ (E = 0 ∨ E = 22 ∨ E = 23) ∧ (m = 0 → L ≠ []) := by
  have hx : (KPc b (x.take q) p q L rd wr).find 2 = some ⟨2, 1, 10, q, 1⟩ := rfl
  have hdl : (x.drop q).length = x.length - q := List.length_drop
  have hpl : placeOf (x.take q) 10 q = q := rfl
  have hr : refusal ((KPc b (x.take q) p q L rd wr).tho ⟨2, 1, 10, q, 1⟩) 10 q (x.drop q).length = 0 := by
    show (if placeOf (x.take q) 10 q = 1048576 then (31 : Int) else 0) = 0
    rw [hpl, if_neg (by omega)]
  have n1 : (1 : Int) ≤ ((x.drop q).length : Int) := by omega
  have n2 : ((x.drop q).length : Int) ≤ 1048576 := by omega
  rw [write_is hx (by show fbit 10 2 ≠ 0; decide) (by omega) (by omega) hr]
  rw [show (KPc b (x.take q) p q L rd wr).plan = L from rfl]
  rcases nxt_err (l := L) n1 n2 with e | e | e
  · rw [if_pos e]
    have hg := nxt_good hL n1 n2 e
    obtain ⟨m, hm⟩ : ∃ m : Nat, (nxt L (x.drop q).length).1 = (m : Int) := ⟨(nxt L (x.drop q).length).1.toNat, by omega⟩
    rw [hm] at hg ⊢
    have hmin : min ((m : Int)).toNat (1048576 - placeOf (x.take q) 10 q) = m := by rw [hpl]; omega
    refine ⟨m, 0, ?_, by omega, .inl rfl, fun h0 => by omega⟩
    show (KPc b (x.take q) p q L rd wr).writeUp.wrx ⟨2, 1, 10, q, 1⟩ (x.drop q) m = _
    rw [show (KPc b (x.take q) p q L rd wr).writeUp.wrx ⟨2, 1, 10, q, 1⟩ (x.drop q) m = (((min ((m : Int)).toNat (1048576 - placeOf (x.take q) 10 q) : Nat) : Int), 0, ((KPc b (x.take q) p q L rd wr).writeUp.setOb 1 (.file (wrL (x.take q) (placeOf (x.take q) 10 q) ((x.drop q).take (min ((m : Int)).toNat (1048576 - placeOf (x.take q) 10 q)))))).setDe ⟨2, 1, 10, placeOf (x.take q) 10 q + min ((m : Int)).toNat (1048576 - placeOf (x.take q) 10 q), 1⟩) from rfl]
    rw [hmin, hpl, wrL_more x q m (by omega) (by omega) h2]
    rfl
  · rw [if_neg (by omega), e]
    refine ⟨0, 22, rfl, by omega, by simp, fun _ hn => ?_⟩
    subst hn
    rw [nxt_nil n1 n2] at e
    cases e
  · rw [if_neg (by omega), e]
    refine ⟨0, 23, rfl, by omega, by simp, fun _ hn => ?_⟩
    subst hn
    rw [nxt_nil n1 n2] at e
    cases e
theorem pc_files (b x : List UInt8) (p q : Nat) (L : List Fault) (rd wr : Nat) : (KPc b x p q L rd wr).files = [(nmF, b), (nmG, x)] := rfl
theorem KAt.files {w : World} {O : Nat → Prop} {kb : Nat} {K : KS} (h : KAt w O kb K) :
    Calls Tryz.prog 66 #[.pointer (some ⟨kb, 0, none⟩)] w fun e w' => ∃ v us, e = .returned v ∧ w'.ownsRow w.heap.size 93 2 v K.files.length (ncs K.files us) ∧ LCells w' w.heap.size (K.files.map Prod.snd) us ∧ Below w.heap.size w w' := by
  obtain ⟨ρ, I, h1, rfl, h3⟩ := h
  exact kfiles_any ρ I K w h1
end Go.Proofs.YtkkicbhmcjbmbaaGreat

/- Rest and Calls of a kernel; what a refused call leaves, as values. -/
namespace Go.Proofs.YtkkicbhmcjbmbaaGreat
open Go.RowKit Go.Maps

set_option maxRecDepth 100000 in
theorem krest_any (ρ : Nat → Option PTag) (I : PI) (K : KS) (w : World) (h : PK w ρ I K) :
    Calls Tryz.prog 69 #[.pointer (some ⟨I.kb, 0, none⟩)] w fun e w' => ∃ v, e = .returned v ∧ w'.ownsRow w.heap.size 167 2 v K.plan.length (fcs K.plan) ∧ Below w.heap.size w w' := by
  have c0 := h.cells.made
  have c5 := h.cells.plan
  have HR := hide (rest_any I.pb I.pv K.plan w (h.comp .plan).1 (by have := h.ok.plan.1; omega))
  have HM := hide (kmade_any I.kb w c0)
  clear h
  go_enter Tryz.func69, Tryz.ntmps69
  go_wp2_with fail
  refine HM.out.mono ?_
  rintro e w1 ⟨rfl, rfl⟩
  go_wp2_with fail
  refine HR.out.mono ?_
  rintro e w2 ⟨v, rfl, hO, hB⟩
  have HO := hide hO
  have HB := hide hB
  clear hO hB
  go_wp2
  go_ret
  exact ⟨v, rfl, HO.out, HB.out⟩
theorem KAt.rest {w : World} {O : Nat → Prop} {kb : Nat} {K : KS} (h : KAt w O kb K) :
    Calls Tryz.prog 69 #[.pointer (some ⟨kb, 0, none⟩)] w fun e w' => ∃ v, e = .returned v ∧ w'.ownsRow w.heap.size 167 2 v K.plan.length (fcs K.plan) ∧ Below w.heap.size w w' := by
  obtain ⟨ρ, I, h1, rfl, h3⟩ := h
  exact krest_any ρ I K w h1
/-- What is left of a call that answers an error. -/
def Refused (K : KS) (E : Int) (K' : KS) : Prop := K'.files = K.files ∧ ((E ≠ 22 ∧ E ≠ 23 ∧ K'.plan = K.plan) ∨ ((E = 22 ∨ E = 23) ∧ K'.plan = K.plan.tail ∧ K.plan ≠ []))
theorem Refused.same {K : KS} {E : Int} (h1 : E ≠ 22) (h2 : E ≠ 23) : Refused K E K := ⟨rfl, .inl ⟨h1, h2, rfl⟩⟩
theorem refused_open (K : KS) (s : ByteArray) (f : Int) (h : (K.open s f).2.1 ≠ 0) : Refused K (K.open s f).2.1 (K.open s f).2.2 := by
  revert h
  unfold KS.open
  repeat' split
  all_goals first
    | exact fun _ => Refused.same (by simp) (by simp)
    | exact fun h => absurd rfl h
theorem nxt_some {L : List Fault} {n : Int} (h1 : 1 ≤ n) (h2 : n ≤ 1048576) (h : (nxt L n).2 ≠ 0) : L ≠ [] := fun e => by
  subst e
  unfold nxt at h
  rw [if_neg (by omega)] at h
  exact h rfl
theorem rdx_zero {K : KS} {x : De} {m : Int} (h1 : 1 ≤ m) (h2 : m ≤ 1048576) (hw : (K.tho x).waits = false) : (K.rdx x m).2.1 = 0 := by
  unfold KS.rdx
  cases ho : K.tho x with
  | file b => rfl
  | term ls scr =>
    show Te_rdE m = 0
    unfold Te_rdE
    rw [if_pos (show rOk m = true by unfold rOk; exact decide_eq_true ⟨h1, h2⟩)]
  | pipe q rd wt =>
    show Kp_rdE m q.length rd wt = 0
    rw [ho] at hw
    have hc : canR q.length rd wt = true := by simpa [Ob.waits] using hw
    unfold Kp_rdE
    rw [inN_of h1 h2]
    unfold canR at hc
    simp only [Bool.and_eq_true, decide_eq_true_eq, Bool.not_eq_true', decide_eq_false_iff_not] at hc
    rw [if_neg (by decide), if_neg (by omega), if_neg (by simpa using hc.2)]
theorem refused_read (K : KS) (ok : planOk K.plan) (d n : Int) (h : (K.read d n).2.1 ≠ 0) : Refused K (K.read d n).2.1 (K.read d n).2.2 := by
  cases hx : K.find d with
  | none =>
    have e : K.read d n = ([], 64, K) := by unfold KS.read; rw [hx]
    rw [e]; exact Refused.same (by simp) (by simp)
  | some x =>
    by_cases hf : fbit x.flags 1 = 0
    · have e : K.read d n = ([], 65, K) := by unfold KS.read; rw [hx]; simp only; rw [if_pos hf]
      rw [e]; exact Refused.same (by simp) (by simp)
    by_cases hn : n < 0 ∨ 1048576 < n
    · have e : K.read d n = ([], 4, K) := by unfold KS.read; rw [hx]; simp only; rw [if_neg hf, if_pos hn]
      rw [e]; exact Refused.same (by simp) (by simp)
    by_cases h0 : n = 0
    · have e : K.read d n = ([], 0, K) := by unfold KS.read; rw [hx]; simp only; rw [if_neg hf, if_neg hn, if_pos h0]
      rw [e] at h; exact absurd rfl h
    have n1 : 1 ≤ n := by omega
    have n2 : n ≤ 1048576 := by omega
    by_cases hw : (K.tho x).waits = true
    · have e : K.read d n = ([], 52, K) := by unfold KS.read; rw [hx]; simp only; rw [if_neg hf, if_neg hn, if_neg h0, if_pos hw]
      rw [e]; exact Refused.same (by simp) (by simp)
    have hw' : (K.tho x).waits = false := by simpa using hw
    rw [read_is hx hf n1 n2 hw'] at h ⊢
    by_cases e0 : (nxt K.plan n).2 = 0
    · rw [if_pos e0] at h
      have hg := nxt_good ok n1 n2 e0
      exact absurd (rdx_zero (K := K.readUp) hg.1 (by omega) hw') h
    · rw [if_neg e0]
      refine ⟨rfl, .inr ⟨?_, rfl, nxt_some n1 n2 e0⟩⟩
      rcases nxt_err (l := K.plan) n1 n2 with e | e | e
      · exact absurd e e0
      · exact .inl e
      · exact .inr e
theorem wrx_zero {K : KS} {x : De} {b : List UInt8} {m : Int} (h1 : 1 ≤ m) (h2 : m ≤ 1048576) (hl : 1 ≤ b.length) (hl2 : b.length ≤ 1048576) (hr : refusal (K.tho x) x.flags x.pos b.length = 0) : (K.wrx x b m).2.1 = 0 := by
  unfold KS.wrx
  cases ho : K.tho x with
  | file f => rfl
  | term ls scr => rfl
  | pipe q rd wt =>
    show Kp_wrE b.length m q.length rd wt = 0
    rw [ho] at hr
    unfold refusal at hr
    simp only at hr
    by_cases hrd : rd = 0
    · rw [if_pos hrd] at hr; cases hr
    rw [if_neg hrd] at hr
    have hc : canW b.length q.length rd wt = true := by
      cases hcw : canW b.length q.length rd wt with
      | true => rfl
      | false => rw [hcw] at hr; simp at hr
    unfold canW at hc
    simp only [Bool.and_eq_true, decide_eq_true_eq, Bool.or_eq_true, Int.toNat_natCast] at hc
    obtain ⟨_, hwt, hfit⟩ := hc
    have hfit : 0 < fitN b.length b.length q.length := by rcases hfit with h | h <;> omega
    have hf2 : fitN b.length m.toNat q.length ≠ 0 := fit_some hfit (by omega)
    have hre : refE b.length m rd wt = 0 := by
      unfold refE
      rw [if_neg (by omega), inN_of h1 h2, if_neg (by decide), if_neg (by omega), if_neg hrd]
    unfold Kp_wrE
    rw [if_pos hre, if_neg (by omega), if_neg hf2]
theorem refused_write (K : KS) (ok : planOk K.plan) (d : Int) (b : List UInt8) (h : (K.write d b).2.1 ≠ 0) : Refused K (K.write d b).2.1 (K.write d b).2.2 := by
  cases hx : K.find d with
  | none =>
    have e : K.write d b = (0, 64, K) := by unfold KS.write; rw [hx]
    rw [e]; exact Refused.same (by simp) (by simp)
  | some x =>
    by_cases hf : fbit x.flags 2 = 0
    · have e : K.write d b = (0, 65, K) := by unfold KS.write; rw [hx]; simp only; rw [if_pos hf]
      rw [e]; exact Refused.same (by simp) (by simp)
    by_cases hn : 1048576 < b.length
    · have e : K.write d b = (0, 5, K) := by unfold KS.write; rw [hx]; simp only; rw [if_neg hf, if_pos hn]
      rw [e]; exact Refused.same (by simp) (by simp)
    by_cases h0 : b.length = 0
    · have e : K.write d b = (0, 0, K) := by unfold KS.write; rw [hx]; simp only; rw [if_neg hf, if_neg hn, if_pos h0]
      rw [e] at h; exact absurd rfl h
    by_cases hr : refusal (K.tho x) x.flags x.pos b.length = 0
    · have n1 : (1 : Int) ≤ (b.length : Int) := by omega
      have n2 : (b.length : Int) ≤ 1048576 := by omega
      rw [write_is hx hf (by omega) (by omega) hr] at h ⊢
      by_cases e0 : (nxt K.plan b.length).2 = 0
      · rw [if_pos e0] at h
        have hg := nxt_good ok n1 n2 e0
        exact absurd (wrx_zero (K := K.writeUp) hg.1 (by omega) (by omega) (by omega) hr) h
      · rw [if_neg e0]
        refine ⟨rfl, .inr ⟨?_, rfl, nxt_some n1 n2 e0⟩⟩
        rcases nxt_err (l := K.plan) n1 n2 with e | e | e
        · exact absurd e e0
        · exact .inl e
        · exact .inr e
    · have e : K.write d b = (0, refusal (K.tho x) x.flags x.pos b.length, K) := by unfold KS.write; rw [hx]; simp only; rw [if_neg hf, if_neg hn, if_neg h0, if_neg hr]
      rw [e]
      rcases refusal_vals (K.tho x) x.flags x.pos b.length with e | e | e | e <;> exact Refused.same (by show refusal _ _ _ _ ≠ 22; omega) (by show refusal _ _ _ _ ≠ 23; omega)
theorem refused_seek (K : KS) (d o wh : Int) (h : (K.seek d o wh).2.1 ≠ 0) : Refused K (K.seek d o wh).2.1 (K.seek d o wh).2.2 := by
  revert h
  unfold KS.seek
  repeat' split
  all_goals first
    | exact fun _ => Refused.same (by simp) (by simp)
    | exact fun h => absurd rfl h
end Go.Proofs.YtkkicbhmcjbmbaaGreat

/- Handles: their calls, those of no kernel, and two kernels side by side. -/
namespace Go.Proofs.YtkkicbhmcjbmbaaGreat
open Go.RowKit Go.Maps

theorem described_nil (d : Int) (w : World) : Calls Tryz.prog 134 #[.pointer none, .int .i64 d] w fun e w' => e = .returned (.tuple #[.pointer none, .int .i64 2]) ∧ w = w' := by
  go_enter Tryz.func134, Tryz.ntmps134
  go_wp2_with fail
  refine (kmade_nil w).mono ?_
  rintro e w1 ⟨rfl, rfl⟩
  go_wp2
  go_ret2
  exact ⟨rfl, rfl⟩
set_option maxRecDepth 100000 in
set_option maxHeartbeats 1000000 in
theorem kread_nil (d n : Int) (w : World) : Calls Tryz.prog 52 #[.pointer none, .int .i64 d, .int .i64 n] w fun e w' => e = .returned (.tuple #[.slice none 0 0, .int .i64 2]) ∧ w = w' := by
  go_enter Tryz.func52, Tryz.ntmps52
  go_wp2_with fail
  refine (described_nil d w).mono ?_
  rintro e w1 ⟨rfl, rfl⟩
  go_wp2
  go_ret2
  exact ⟨rfl, rfl⟩
set_option maxRecDepth 100000 in
set_option maxHeartbeats 1000000 in
theorem kwrite_nil (d : Int) (a : Option Addr) (n c : Nat) (w : World) : Calls Tryz.prog 55 #[.pointer none, .int .i64 d, .slice a n c] w fun e w' => e = .returned (.tuple #[.int .i64 0, .int .i64 2]) ∧ w = w' := by
  go_enter Tryz.func55, Tryz.ntmps55
  go_wp2_with fail
  refine (described_nil d w).mono ?_
  rintro e w1 ⟨rfl, rfl⟩
  go_wp2
  go_ret2
  exact ⟨rfl, rfl⟩
set_option maxRecDepth 100000 in
set_option maxHeartbeats 1000000 in
theorem kseek_nil (d o h : Int) (w : World) : Calls Tryz.prog 58 #[.pointer none, .int .i64 d, .int .i64 o, .int .i64 h] w fun e w' => e = .returned (.tuple #[.int .i64 0, .int .i64 2]) ∧ w = w' := by
  go_enter Tryz.func58, Tryz.ntmps58
  go_wp2_with fail
  refine (described_nil d w).mono ?_
  rintro e w1 ⟨rfl, rfl⟩
  go_wp2
  go_ret2
  exact ⟨rfl, rfl⟩
set_option maxRecDepth 100000 in
theorem hread_nil (d n : Int) (w : World) : Calls Tryz.prog 223 #[.agg #[.pointer none, .int .i64 d], .int .i64 n] w fun e w' => e = .returned (.tuple #[.slice none 0 0, .int .i64 2]) ∧ Below w.heap.size w w' := by
  have hB := recv_below w (Obj.cells #[.pointer none, .int .i64 d] 70)
  go_enter Tryz.func223, Tryz.ntmps223
  go_wp2_with fail
  refine (kread_nil d n _).mono ?_
  rintro e w1 ⟨rfl, rfl⟩
  go_wp2
  go_ret2
  exact ⟨rfl, hB⟩
set_option maxRecDepth 100000 in
theorem hwrite_nil (d : Int) (a : Option Addr) (n c : Nat) (w : World) : Calls Tryz.prog 225 #[.agg #[.pointer none, .int .i64 d], .slice a n c] w fun e w' => e = .returned (.tuple #[.int .i64 0, .int .i64 2]) ∧ Below w.heap.size w w' := by
  have hB := recv_below w (Obj.cells #[.pointer none, .int .i64 d] 70)
  go_enter Tryz.func225, Tryz.ntmps225
  go_wp2_with fail
  refine (kwrite_nil d a n c _).mono ?_
  rintro e w1 ⟨rfl, rfl⟩
  go_wp2
  go_ret2
  exact ⟨rfl, hB⟩
/-- A step behind blocks that are new. -/
theorem KStep.behind {w w1 w' : World} {O : Nat → Prop} {kb : Nat} {K : KS} (h : KStep w1 O kb K w') (hB : Below w.heap.size w w1) : KStep w O kb K w' := by
  obtain ⟨O', h1, h2, h3⟩ := h
  exact ⟨O', h1, fun k e => (h2 k e).imp id (fun e => Nat.le_trans hB.size e), (Turned.of_below hB).trans h3 (fun _ _ e => e)⟩
set_option maxRecDepth 100000 in
theorem KAt.hread {w : World} {O : Nat → Prop} {kb : Nat} {K : KS} (h : KAt w O kb K) (d n : Int) (hd : I64 d) (hr : K.reads < 9223372036854775807) :
    Calls Tryz.prog 223 #[.agg #[.pointer (some ⟨kb, 0, none⟩), .int .i64 d], .int .i64 n] w fun e w' => ∃ v, e = .returned (.tuple #[v, .int .i64 (K.read d n).2.1]) ∧ w'.ownsRow w.heap.size 5 1 v (K.read d n).1.length ((K.read d n).1.map bv) ∧ KStep w O kb (K.read d n).2.2 w' := by
  have hB := recv_below w (Obj.cells #[.pointer (some ⟨kb, 0, none⟩), .int .i64 d] 70)
  have HR := hide ((h.below hB).read d n hd hr)
  have HB := hide hB
  clear h hB
  go_enter Tryz.func223, Tryz.ntmps223
  go_wp2_with fail
  refine HR.out.mono ?_
  rintro e w1 ⟨v, rfl, h1, h2, h3⟩
  have HS : Hid (KStep w O kb (K.read d n).2.2 w1) := hide (KStep.behind ⟨O, h2, fun _ e => .inl e, h3⟩ HB.out)
  have HO := hide (owns_mono h1 HB.out.size)
  clear h1 h2 h3
  go_wp2
  go_ret2
  exact ⟨v, rfl, HO.out, HS.out⟩
set_option maxRecDepth 100000 in
theorem KAt.hwrite {w : World} {O : Nat → Prop} {kb : Nat} {K : KS} (h : KAt w O kb K) (d : Int) (bs : List UInt8) (a1 : Option Addr) (cx : Nat) (hd : I64 d) (hr : K.writes < 9223372036854775807)
    (hb : Bys w (.slice a1 bs.length cx) bs) (hcap : bs.length ≤ cx) (hbig : bs.length ≤ 9223372036854775807) (hap : 0 < bs.length → ∀ k, (Value.slice a1 bs.length cx).ownBlock = some k → ¬ O k) :
    Calls Tryz.prog 225 #[.agg #[.pointer (some ⟨kb, 0, none⟩), .int .i64 d], .slice a1 bs.length cx] w fun e w' => e = .returned (.tuple #[.int .i64 (K.write d bs).1, .int .i64 (K.write d bs).2.1]) ∧ KStep w O kb (K.write d bs).2.2 w' := by
  have hB := recv_below w (Obj.cells #[.pointer (some ⟨kb, 0, none⟩), .int .i64 d] 70)
  have HR := hide ((h.below hB).write d bs a1 cx hd hr (hb.below hB) hcap hbig hap)
  have HB := hide hB
  clear h hB hb hap
  go_enter Tryz.func225, Tryz.ntmps225
  go_wp2_with fail
  refine HR.out.mono ?_
  rintro e w1 ⟨rfl, h1⟩
  have HS := hide (h1.behind HB.out)
  clear h1
  go_wp2
  go_ret2
  exact ⟨rfl, HS.out⟩
theorem KAt.rstep {w w' : World} {O : Nat → Prop} {kb : Nat} {K' : KS} (h : KAt w' O kb K') (hT : Turned O w w') : KStep w O kb K' w' := ⟨O, h, fun _ e => .inl e, hT⟩
/-- Two kernels that share nothing, from a base on. -/
def Two (W : World) (B kb mb : Nat) (K M : KS) : Prop := ∃ O P, KAt W O kb K ∧ KAt W P mb M ∧ (∀ j, O j → B ≤ j ∧ j < W.heap.size ∧ ¬ P j) ∧ ∀ j, P j → B ≤ j ∧ j < W.heap.size
theorem Two.swap {W : World} {B kb mb : Nat} {K M : KS} (h : Two W B kb mb K M) : Two W B mb kb M K := by
  obtain ⟨O, P, h1, h2, h3, h4⟩ := h
  exact ⟨P, O, h2, h1, fun j e => ⟨(h4 j e).1, (h4 j e).2, fun e' => (h3 j e').2.2 e⟩, fun j e => ⟨(h3 j e).1, (h3 j e).2.1⟩⟩
theorem Two.below {W W' : World} {B kb mb : Nat} {K M : KS} (h : Two W B kb mb K M) (hB : Below W.heap.size W W') : Two W' B kb mb K M := by
  obtain ⟨O, P, h1, h2, h3, h4⟩ := h
  exact ⟨O, P, h1.below hB, h2.below hB, fun j e => ⟨(h3 j e).1, Nat.lt_of_lt_of_le (h3 j e).2.1 hB.size, (h3 j e).2.2⟩, fun j e => ⟨(h4 j e).1, Nat.lt_of_lt_of_le (h4 j e).2 hB.size⟩⟩
/-- Both, and what a step of the one, and then of the other, leaves. -/
theorem Two.both {wr : World} {B kb mb : Nat} {K M : KS} (h : Two wr B kb mb K M) (hB : B ≤ wr.heap.size) :
    ∃ O P, KAt wr O kb K ∧ KAt wr P mb M ∧ (∀ j, O j → B ≤ j ∧ j < wr.heap.size) ∧ (∀ j, P j → B ≤ j ∧ j < wr.heap.size) ∧
      ∀ wb, Below wr.heap.size wr wb → ∀ K' w6, KStep wb O kb K' w6 → KAt w6 P mb M ∧ ∀ M' w7, KStep w6 P mb M' w7 → Two w7 B kb mb K' M' ∧ Below B wr w7 := by
  obtain ⟨O, P, h1, h2, h3, h4⟩ := h
  refine ⟨O, P, h1, h2, fun j e => ⟨(h3 j e).1, (h3 j e).2.1⟩, h4, fun wb hb K' w6 hS => ?_⟩
  obtain ⟨O', g1, g2, g3⟩ := hS
  have hsb := hb.size
  have hm : KAt w6 P mb M := (h2.below hb).keep (fun j e hl => g3.block j hl (fun e' => (h3 j e').2.2 e)) g3.size
  refine ⟨hm, fun M' w7 hS7 => ?_⟩
  obtain ⟨P', f1, f2, f3⟩ := hS7
  have hz6 := g3.size
  have hz7 := f3.size
  have g1' := g1.trim
  refine ⟨⟨fun k => O' k ∧ k < w6.heap.size, fun k => P' k ∧ k < w7.heap.size, g1'.keep (fun j e hl => f3.block j hl (fun e' => ?_)) hz7, f1.trim, fun j e => ⟨?_, Nat.lt_of_lt_of_le e.2 hz7, fun e' => ?_⟩, fun j e => ⟨?_, e.2⟩⟩, (hb.mono hB).trans ((g3.below (fun j e => (h3 j e).1) (Nat.le_trans hB hsb)).trans (f3.below (fun j e => (h4 j e).1) (Nat.le_trans hB (Nat.le_trans hsb hz6))))⟩
  · rcases g2 j e.1 with e1 | e1
    · exact (h3 j e1).2.2 e'
    · have := (h4 j e').2; omega
  · rcases g2 j e.1 with e1 | e1
    · exact (h3 j e1).1
    · omega
  · rcases f2 j e'.1 with e2 | e2
    · rcases g2 j e.1 with e1 | e1
      · exact (h3 j e1).2.2 e2
      · have := (h4 j e2).2; omega
    · have := e.2; omega
  · rcases f2 j e.1 with e2 | e2
    · exact (h4 j e2).1
    · omega
theorem six_cells (w : World) (a b c d e f : Value) (t : TypeId) : (w.alloc (Obj.cells #[a, b, c, d, e, f] t)).cell? ⟨w.heap.size, 1, none⟩ = some b ∧ (w.alloc (Obj.cells #[a, b, c, d, e, f] t)).cell? ⟨w.heap.size, 2, none⟩ = some c ∧ (w.alloc (Obj.cells #[a, b, c, d, e, f] t)).cell? ⟨w.heap.size, 3, none⟩ = some d ∧ (w.alloc (Obj.cells #[a, b, c, d, e, f] t)).cell? ⟨w.heap.size, 4, none⟩ = some e ∧ (w.alloc (Obj.cells #[a, b, c, d, e, f] t)).cell? ⟨w.heap.size, 5, none⟩ = some f := by
  refine ⟨?_, ?_, ?_, ?_, ?_⟩ <;> (simp only [World.cell?, heap_alloc_new]; rfl)
theorem cell_keep {O : Nat → Prop} {w w' : World} {g j : Nat} {v : Value} (hT : Turned O w w') (h : w.cell? ⟨g, j, none⟩ = some v) (hO : ¬ O g) : w'.cell? ⟨g, j, none⟩ = some v :=
  (World.cell?_of_block (w := w) (a := ⟨g, j, none⟩) (hT.block g (World.block_lt_of_cell? w _ h) hO)).trans h
theorem KStep.turned {w w' : World} {O : Nat → Prop} {kb : Nat} {K : KS} (h : KStep w O kb K w') : Turned O w w' := by
  obtain ⟨_, _, _, h3⟩ := h
  exact h3
theorem KAt.files_ok {w : World} {O : Nat → Prop} {kb : Nat} {K : KS} (h : KAt w O kb K) : K.files.length ≤ 256 ∧ ∀ j (hj : j < K.files.length), K.files[j].2.length ≤ 1048576 ∧ K.files[j].1.size ≤ maxLen := by
  obtain ⟨ρ, I, h1, _, _⟩ := h
  refine ⟨?_, fun j hj => ?_⟩
  · have := h1.ok.named
    have h4 : K.files.length ≤ K.nm.length := by unfold KS.files KS.fidx; simpa using List.length_filter_le _ _
    omega
  · obtain ⟨i, L, hm, hi, ho, _, hf⟩ := file_at h1.ok (k := j) (by simpa [fnames, KS.files] using hj)
    rw [(List.getElem?_eq_some_iff.1 hf).2]
    have := h1.comp (.obj i) hi
    rw [← KS.obOf_eq hi, ho] at this
    exact ⟨this.1, by have := name_few (h1.nm.ok i hm); unfold maxLen; show (K.nameOf i).size ≤ _; omega⟩
theorem kle_seek (K : KS) (d o h : Int) : KLe K (K.seek d o h).2.2 := by
  unfold KS.seek
  repeat' split
  all_goals first
    | exact KLe.refl K
    | exact ⟨Nat.le_add_right K.next 2, Nat.le_add_right K.reads 1, Nat.le_add_right K.writes 1⟩
theorem bys_none {W W' : World} {v : Value} {l : List UInt8} (h : Bys W v l) (h0 : ¬ 0 < l.length) : Bys W' v l := by
  rcases h with h | h | ⟨_, _, _, _, h, _⟩
  · exact .inl h
  · exact .inr (.inl h)
  · exact absurd h h0
theorem read_few {w : World} {O : Nat → Prop} {kb : Nat} {K : KS} (h : KAt w O kb K) (d n : Int) : (K.read d n).1.length ≤ 1048576 := by
  obtain ⟨ρ, I, h1, _, _⟩ := h
  have ok : ∀ x, K.find d = some x → (K.tho x).ok := fun x hx => by
    have hi := h1.ok.th x (KS.find_some hx).1
    have := (h1.comp (.obj x.th) hi).ok
    rw [KS.tho_eq hi]
    exact this
  unfold KS.read
  split
  · simp
  · rename_i x hx
    have hk := ok x hx
    split
    · simp
    split
    · simp
    split
    · simp
    split
    · simp
    split
    · revert hk
      cases K.tho x with
      | file b => intro hk; simp only [piece_len]; have : b.length ≤ 1048576 := hk; omega
      | term ls scr =>
        intro hk
        simp only [rdH]
        split
        · cases ls with
          | nil => simp [headL]
          | cons l r =>
            have := hk.2.1 0 (by simp)
            simp only [List.getElem_cons_zero] at this
            simp only [headL, List.length_take]
            omega
        · simp
      | pipe q rd wt => intro hk; have : q.length ≤ 4096 := hk.1; simp only [rdB]; split <;> simp <;> omega
    · simp
end Go.Proofs.YtkkicbhmcjbmbaaGreat

/- The reference's kernel: Files. -/
namespace Go.Proofs.YtkkicbhmcjbmbaaGreat
open Go.RowKit

/-- The files among the first k names. -/
def KS.filesTo (K : KS) (k : Nat) : List Nm := ((K.nm.take k).filter fun i => (K.obOf i).kind == 1).map fun i => (K.nameOf i, (K.obOf i).bytes)
theorem filesTo_all (K : KS) : K.filesTo K.nm.length = K.files := by unfold KS.filesTo KS.files KS.fidx; rw [List.take_length]
theorem filesTo_next (K : KS) (k : Nat) (hk : k < K.nm.length) : K.filesTo (k + 1) = if (K.obOf K.nm[k]).kind == 1 then K.filesTo k ++ [(K.nameOf K.nm[k], (K.obOf K.nm[k]).bytes)] else K.filesTo k := by
  unfold KS.filesTo
  rw [List.take_add_one, List.getElem?_eq_getElem hk, List.filter_append, List.map_append]
  by_cases e : ((K.obOf K.nm[k]).kind == 1) = true
  · rw [if_pos e]; simp [e]
  · rw [if_neg e]; simp [e]
theorem filesTo_few (K : KS) (k : Nat) : (K.filesTo k).length ≤ K.nm.length := by
  unfold KS.filesTo
  rw [List.length_map]
  exact Nat.le_trans (List.length_filter_le _ _) (by rw [List.length_take]; omega)
set_option maxRecDepth 100000 in
set_option maxHeartbeats 8000000 in
theorem rkfiles_any (B : Nat → Prop) (ρ : Nat → Option Tag) (I : RI) (K : KS) (w : World) (h : RK w B ρ I K) :
    Calls Tryz.prog 67 #[.pointer (some ⟨I.kb, 0, none⟩)] w fun e w' => ∃ v us, e = .returned v ∧ w'.ownsRow w.heap.size 93 2 v K.files.length (ncs K.files us) ∧ LCells w' w.heap.size (K.files.map Prod.snd) us ∧ Below w.heap.size w w' := by
  have hb := (h.comp .kern).1
  have hkl : I.kb < w.heap.size := (Array.getElem?_eq_some_iff.1 hb).1
  have c1 : w.cell? ⟨I.kb, 0, none⟩ = some I.vT := by rw [cell_of_row w I.kb 0 _ _ _ hb]; rfl
  have HD := hide (h.comp .trow).1
  have hfew := h.ok.named
  obtain ⟨va, vc, hv⟩ := owns_slice (h.comp .trow).1
  rw [hv] at c1 HD
  have HH := hide h
  clear h hb hv
  go_enter Tryz.func67, Tryz.ntmps67
  go_wp2_with fail
  go_loopw [3, 4] (fun ov iv wr => ∃ (k : Nat) (us : List Value), iv = .int .i64 k ∧ k ≤ K.nm.length ∧ Hid (wr.ownsRow w.heap.size 93 2 ov (K.filesTo k).length (ncs (K.filesTo k) us)) ∧ Hid (LCells wr w.heap.size ((K.filesTo k).map Prod.snd) us) ∧ Hid (Below w.heap.size w wr)) (fun _ iv _ => K.nm.length - (intOf iv).toNat)
  case atStart => exact ⟨0, [], rfl, Nat.zero_le _, hide (World.ownsRow_nil _ _ _ _), hide ⟨rfl, fun j hj => absurd hj (by simp [KS.filesTo]), fun i j vi vj k _ h1 => by simp at h1⟩, hide (Below.refl _ _)⟩
  case round =>
    obtain ⟨k, us, rfl, hk, HO, HL, HB⟩ := hrel
    obtain ⟨oa, oc, rfl⟩ := owns_slice HO.out
    have c0 := (HB.out.cell (p := ⟨I.kb, 0, none⟩) hkl).trans c1
    have hsz := HB.out.size
    by_cases hlt : k < K.nm.length
    · obtain ⟨b, rfl⟩ : ∃ b, va = some ⟨b, 0, none⟩ := by
        rcases HD.out.2 with ⟨h0, _⟩ | ⟨g, cap, cur, h1, _⟩
        · simp only [Value.slice.injEq] at h0; omega
        · simp only [Value.slice.injEq] at h1; exact ⟨g, h1.1⟩
      have hcell := HD.out.cellAt k (by simpa using hlt)
      rw [List.getElem?_map, List.getElem?_eq_getElem hlt] at hcell
      simp only [Option.map_some] at hcell
      have hk1 : (0 : Int) ≤ (k : Int) := by omega
      have hk2 : (k : Int) < (K.nm.length : Int) := by omega
      obtain ⟨x, hx⟩ : ∃ x, x = K.nm[k] := ⟨_, rfl⟩
      have hxt : x < K.th.length := by rw [hx]; exact HH.out.ok.nm _ (List.getElem_mem _)
      have hnext := filesTo_next K k hlt
      rw [← hx] at hcell hnext
      have r0 := (HB.out.cell (p := ⟨b, k, none⟩) (World.block_lt_of_cell? w _ hcell)).trans hcell
      obtain ⟨tn, tk, tf, -⟩ := HH.out.tcell hxt
      have tk' := (HB.out.cell (p := ⟨I.tb x, 1, none⟩) (World.block_lt_of_cell? w _ tk)).trans tk
      have HNx := hide hnext
      have hcw := hcell
      clear hcell hx hnext
      by_cases hkd : (K.obOf x).kind = 1
      · obtain ⟨L, hL⟩ : ∃ L, K.obOf x = .file L := by
          cases ho : K.obOf x with
          | file L => exact ⟨L, rfl⟩
          | term _ _ => rw [ho] at hkd; simp [Ob.kind] at hkd
          | pipe _ _ _ => rw [ho] at hkd; simp [Ob.kind] at hkd
        rw [hkd] at tk'
        have tn' := (HB.out.cell (p := ⟨I.tb x, 0, none⟩) (World.block_lt_of_cell? w _ tn)).trans tn
        have tf' := (HB.out.cell (p := ⟨I.tb x, 2, none⟩) (World.block_lt_of_cell? w _ (tf L hL))).trans (tf L hL)
        have hob := (HH.out.comp (.obj x)) hxt
        rw [← KS.obOf_eq hxt, hL] at hob
        obtain ⟨⟨u, Bu, hF, -⟩, hLl⟩ := hob
        have hLl' : L.length ≤ 1048576 := hLl
        obtain ⟨ua, uc, hu⟩ := owns_slice hF.row
        have d0 := hF.data
        have hby := Bys.of_owns hF.row
        rw [hu] at d0 hby
        have d0' := (HB.out.cell (p := ⟨I.ob x, 0, none⟩) (World.block_lt_of_cell? w _ d0)).trans d0
        have HNx2 : Hid (K.filesTo (k + 1) = K.filesTo k ++ [(K.nameOf x, L)]) := hide (by rw [HNx.out, hL]; rfl)
        obtain ⟨nm, hnm⟩ : ∃ nm, nm = K.nameOf x := ⟨_, rfl⟩
        rw [← hnm] at tn' HNx2
        have hS : ∀ w', Below w.heap.size w w' → w'.cell? ⟨I.kb, 0, none⟩ = some (.slice (some ⟨b, 0, none⟩) K.nm.length vc) ∧ w'.cell? ⟨b, k, none⟩ = some (.pointer (some ⟨I.tb x, 0, none⟩)) ∧ w'.cell? ⟨I.tb x, 0, none⟩ = some (.string nm) ∧ w'.cell? ⟨I.tb x, 2, none⟩ = some (.pointer (some ⟨I.ob x, 0, none⟩)) ∧ w'.cell? ⟨I.ob x, 0, none⟩ = some (.slice ua L.length uc) := fun w' hW => ⟨(hW.cell (p := ⟨I.kb, 0, none⟩) hkl).trans c1, (hW.cell (p := ⟨b, k, none⟩) (World.block_lt_of_cell? w _ hcw)).trans hcw, (hW.cell (p := ⟨I.tb x, 0, none⟩) (World.block_lt_of_cell? w _ tn)).trans (by rw [hnm]; exact tn), (hW.cell (p := ⟨I.tb x, 2, none⟩) (World.block_lt_of_cell? w _ (tf L hL))).trans (tf L hL), (hW.cell (p := ⟨I.ob x, 0, none⟩) (World.block_lt_of_cell? w _ d0)).trans d0⟩
        have hBd : Below w.heap.size w wr.drew := HB.out.drew
        obtain ⟨s1, w5, hrun1, HO5, hg5, -⟩ := run_append_bytes wr.drew 40 wr.heap.size (.slice none 0 0) (.slice ua L.length uc) [] L (World.ownsRow_nil _ _ _ _) (hby.below hBd) (by simp; omega) (Nat.le_refl _)
        obtain ⟨xa, xc, rfl⟩ := owns_slice HO5.out
        rw [List.nil_append] at HO5 hrun1
        have hB5r : Below wr.heap.size wr.drew w5 := (Below.refl _ wr.drew).grown hg5 (Nat.le_refl _) (fun k e => by cases e)
        have hB5 : Below w.heap.size w w5 := hBd.trans (hB5r.mono hsz)
        have hBa := recv_below w5 (Obj.cells #[.string nm, .slice xa L.length xc] 93)
        have hBA : Below w.heap.size w (w5.alloc (Obj.cells #[.string nm, .slice xa L.length xc] 93)) := hB5.trans (hBa.mono hB5.size)
        have hB5a : Below wr.heap.size wr.drew (w5.alloc (Obj.cells #[.string nm, .slice xa L.length xc] 93)) := hB5r.trans (hBa.mono hB5r.size)
        have HOa := hide (owns_below (W := wr.drew) HO.out hB5a)
        have HLa := hide (LCells.below (W := wr.drew) HL.out hB5a)
        have HUa := hide (owns_below HO5.out hBa)
        have hcu0 : (w5.alloc (Obj.cells #[.string nm, .slice xa L.length xc] 93)).cell? ⟨w5.heap.size, 0, none⟩ = some (.string nm) := by simp only [World.cell?, heap_alloc_new]; rfl
        have hcu1 : (w5.alloc (Obj.cells #[.string nm, .slice xa L.length xc] 93)).cell? ⟨w5.heap.size, 1, none⟩ = some (.slice xa L.length xc) := by simp only [World.cell?, heap_alloc_new]; rfl
        have hfe := filesTo_few K k
        obtain ⟨s', w7, hrun2, HO7, hg7, hb7⟩ := run_append_named (w5.alloc (Obj.cells #[.string nm, .slice xa L.length xc] 93)) 22 w.heap.size _ (K.filesTo k).length _ w5.heap.size 1 nm _ HOa.out hcu0 hcu1 rfl (by omega) (by have := hBA.size; omega)
        obtain ⟨sa', sc', rfl⟩ := owns_slice HO7.out
        have hB7 : Below w.heap.size w w7 := hBA.grown hg7 hBA.size (fun j e => (HOa.out.lt j e).1)
        have K0 := hS wr.drew hBd
        have K5 := hS w5 hB5
        have Ka := hS _ hBA
        have K7 := hS w7 hB7
        have HR1 := hide hrun1
        have HR2 := hide hrun2
        have HE : Hid (∃ us', w7.ownsRow w.heap.size 93 2 (.slice sa' ((K.filesTo k).length + 1) sc') (K.filesTo (k + 1)).length (ncs (K.filesTo (k + 1)) us') ∧ LCells w7 w.heap.size ((K.filesTo (k + 1)).map Prod.snd) us') := hide (by
          have hul := HL.out.1
          rw [List.length_map] at hul
          refine ⟨us ++ [.slice xa L.length xc], ?_, ?_⟩
          · rw [HNx2.out, ncs_snoc _ _ _ _ hul, List.length_append]
            exact HO7.out
          · have hLa : LCells w7 w.heap.size ((K.filesTo k).map Prod.snd) us := HLa.out.keep fun j hj v i h1 e => by
              obtain ⟨v', h2, h3⟩ := HLa.out.2.1 j hj
              rw [h1] at h2
              cases h2
              exact hg7.block i (h3.lt i e).2 (fun e' => Te_owns_apart h3 HOa.out (by decide) i e e'.symm)
            have hU7 := owns_keep (W' := w7) HUa.out fun i e => hg7.block i (HUa.out.lt i e).2 (fun e' => Te_owns_apart HUa.out HOa.out (by decide) i e e'.symm)
            have h9 : (K.filesTo k).length < ((K.filesTo (k + 1)).map Prod.snd).length := by rw [HNx2.out]; simp
            have h10 : (K.filesTo (k + 1)).map Prod.snd = ((K.filesTo (k + 1)).map Prod.snd).take ((K.filesTo k).length + 1) := by rw [List.take_of_length_le (by rw [HNx2.out]; simp)]
            have h11 : ((K.filesTo (k + 1)).map Prod.snd).take (K.filesTo k).length = (K.filesTo k).map Prod.snd := by rw [HNx2.out, List.map_append, List.take_append_of_le_length (by simp), List.take_of_length_le (by simp)]
            have h12 : ((K.filesTo (k + 1)).map Prod.snd)[(K.filesTo k).length] = L := by simp [HNx2.out]
            rw [h10]
            refine LCells.snoc h9 (by rw [h11]; exact hLa) _ ?_ (fun j v i h1 e e' => ?_)
            · rw [h12]
              exact owns_mono hU7 hsz
            · obtain ⟨v', h2, h3⟩ := HL.out.2.1 j (by have := (List.getElem?_eq_some_iff.1 h1).1; have := HL.out.1; omega)
              rw [h1] at h2
              cases h2
              have := (h3.lt i e).2
              have : wr.heap.size ≤ i := (HO5.out.lt i e').1
              omega)
        have HB7 := hide hB7
        have H0 := hide hS
        clear hS hBd hrun1 hrun2 hg5 hB5r hB5 hBa hBA hB5a hcu0 hcu1 hg7 hb7 hB7 hby hF d0 tf tn tk hcw hnm
        go_wp2_with fail
        go_region_held3 (fun w' => w'.cell? ⟨I.kb, 0, none⟩ = some (.slice (some ⟨b, 0, none⟩) K.nm.length vc) ∧ w'.cell? ⟨b, k, none⟩ = some (.pointer (some ⟨I.tb x, 0, none⟩)) ∧ w'.cell? ⟨I.tb x, 0, none⟩ = some (.string nm) ∧ w'.cell? ⟨I.tb x, 2, none⟩ = some (.pointer (some ⟨I.ob x, 0, none⟩)) ∧ w'.cell? ⟨I.ob x, 0, none⟩ = some (.slice ua L.length uc))
          (first | exact K7 | exact Ka | exact K5 | exact K0 | go_keep)
          (first
            | (refine step_append_run _ (by rfl) _ _ _ _ (by rfl) _ _ (by rfl) (by rfl) _ _ HR2.out ?_)
            | (refine step_append_run _ (by rfl) _ _ _ _ (by rfl) _ _ (by rfl) (by rfl) _ _ HR1.out ?_)
            | fail)
        all_goals
          go_wp2
          go_roundw
          case rel =>
            obtain ⟨us', h1, h2⟩ := HE.out
            exact ⟨k + 1, us', by go_num, by omega, hide h1, hide h2, HB7⟩
          case measure => simp [intOf]; omega
      · have hkd2 : ((K.obOf x).kind == 1) = false := by simpa using hkd
        have HNx2 : Hid (K.filesTo (k + 1) = K.filesTo k) := hide (by rw [HNx.out, if_neg (by simp [hkd])])
        go_wp2
        go_roundw
        case rel => exact ⟨k + 1, us, by go_num, by omega, by rw [HNx2.out]; exact HO, by rw [HNx2.out]; exact HL, HB⟩
        case measure => simp [intOf]; omega
    · obtain rfl : k = K.nm.length := by omega
      have HA : Hid (K.filesTo K.nm.length = K.files) := hide (filesTo_all K)
      go_wp2
      go_ret
      rw [← HA.out]
      exact ⟨_, us, rfl, HO.out, HL.out, HB.out⟩
end Go.Proofs.YtkkicbhmcjbmbaaGreat

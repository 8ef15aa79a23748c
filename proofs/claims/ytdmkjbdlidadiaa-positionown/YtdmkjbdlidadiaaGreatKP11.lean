/- What the proof stands on, part 11: the contracts of the program's calls that it reaches. -/
import Derived.Test.YtdmkjbdlidadiaaGreatKP10
import Derived.Test.YtdmkjbdlidadiaaGreatRows
import Derived.Shelf.SlIter.Nil
import Derived.Shelf.SortM.Plain
import Derived.Shelf.SortM.SortNone
import Derived.Ground.GgzProg
import Derived.Ground.SlgmProg
import Derived.Test.YtdmkjbdlidadiaaGreatProg
import Derived.LaidEqlPtr
import Derived.Lib.Builder
import Derived.Deep.RegionHeld3
import Derived.Deep.LoopGhost
/- Contracts of Go's library on the keys of a map, sorted, at this dump, laid by the kit's own command. -/
namespace Go.Proofs
open Go.RowKit Go.Maps Go.Sort Go.Shelf
def Tryz.keys178_ren : Go.Shelf.Ren := ⟨fun | 7 => 178 | 10 => 227 | n => n, fun | 23 => 97 | 26 => 9 | 3 => 105 | 28 => 289 | 0 => 0 | 27 => 288 | 33 => 118 | 4 => 4 | n => n, fun | n => n⟩
theorem Tryz.keys178 : Go.Proofs.SlLaysZ.n7 Tryz.prog Tryz.keys178_ren := {
  mixed := by kernel_rfl
  f7 := ⟨Tryz.f178.name, by decide, Tryz.func178.trans (congrArg some (by kernel_rfl))⟩
  f10 := ⟨Tryz.f227.name, by decide, Tryz.func227.trans (congrArg some (by kernel_rfl))⟩
  t0 := Tryz.underlying0
  a0 := Tryz.isAgg0
  z0 := Tryz.sizeOf0
  v0 := Tryz.zeroValue0
  t4 := Tryz.underlying4
  a4 := Tryz.isAgg4
  z4 := Tryz.sizeOf4
  v4 := Tryz.zeroValue4
  t23 := Tryz.underlying97
  a23 := Tryz.isAgg97
  z23 := Tryz.sizeOf97
  v23 := Tryz.zeroValue97
  t26 := Tryz.underlying9
  a26 := Tryz.isAgg9
  z26 := Tryz.sizeOf9
  v26 := Tryz.zeroValue9
  t27 := Tryz.underlying288
  a27 := Tryz.isAgg288
  z27 := Tryz.sizeOf288
  v27 := Tryz.zeroValue288
  t28 := Tryz.underlying289
  a28 := Tryz.isAgg289
  z28 := Tryz.sizeOf289
  v28 := Tryz.zeroValue289
  t33 := Tryz.underlying118
  a33 := Tryz.isAgg118
  z33 := Tryz.sizeOf118
  v33 := Tryz.zeroValue118 }
def Tryz.sorted177_ren : Go.Shelf.Ren := ⟨fun | 6 => 177 | 8 => 225 | 9 => 226 | 11 => 242 | 13 => 244 | 12 => 243 | 23 => 260 | 24 => 261 | 14 => 251 | 15 => 252 | 16 => 253 | 17 => 254 | 18 => 255 | 19 => 256 | 20 => 257 | 21 => 258 | 22 => 259 | 25 => 279 | 26 => 280 | 27 => 281 | 28 => 282 | 29 => 283 | 30 => 284 | 31 => 285 | n => n, fun | 26 => 9 | 28 => 289 | 24 => 117 | 0 => 0 | 3 => 3 | 37 => 355 | 48 => 375 | 50 => 377 | 4 => 4 | 40 => 368 | 39 => 367 | 45 => 216 | 5 => 5 | 9 => 9 | 51 => 378 | 55 => 333 | 57 => 383 | 58 => 121 | 33 => 118 | n => n, fun | n => n⟩
theorem Tryz.sorted177 : Go.Proofs.SlLaysZ.n6 Tryz.prog Tryz.sorted177_ren := {
  mixed := by kernel_rfl
  f6 := ⟨Tryz.f177.name, by decide, Tryz.func177.trans (congrArg some (by kernel_rfl))⟩
  f8 := ⟨Tryz.f225.name, by decide, Tryz.func225.trans (congrArg some (by kernel_rfl))⟩
  f11 := ⟨Tryz.f242.name, by decide, Tryz.func242.trans (congrArg some (by kernel_rfl))⟩
  t0 := Tryz.underlying0
  a0 := Tryz.isAgg0
  z0 := Tryz.sizeOf0
  v0 := Tryz.zeroValue0
  t24 := Tryz.underlying117
  a24 := Tryz.isAgg117
  z24 := Tryz.sizeOf117
  v24 := Tryz.zeroValue117
  t26 := Tryz.underlying9
  a26 := Tryz.isAgg9
  z26 := Tryz.sizeOf9
  v26 := Tryz.zeroValue9
  t28 := Tryz.underlying289
  a28 := Tryz.isAgg289
  z28 := Tryz.sizeOf289
  v28 := Tryz.zeroValue289
  i26 := by kernel_rfl }
def Tryz.sort226_ren : Go.Shelf.Ren := ⟨fun | 6 => 226 | 8 => 244 | 9 => 243 | 19 => 260 | 20 => 261 | 21 => 251 | 22 => 252 | 23 => 253 | 24 => 254 | 25 => 255 | 26 => 256 | 27 => 257 | 28 => 258 | 29 => 259 | 36 => 279 | 31 => 280 | 32 => 281 | 37 => 282 | 38 => 283 | 39 => 284 | 41 => 285 | n => n, fun | 27 => 117 | 29 => 9 | 3 => 3 | 32 => 355 | 26 => 117 | 0 => 0 | 44 => 375 | 46 => 377 | 4 => 4 | 36 => 368 | 35 => 367 | 41 => 216 | 5 => 5 | 9 => 9 | 53 => 378 | 57 => 333 | 63 => 383 | 64 => 121 | n => n, fun | n => n⟩
theorem Tryz.sort226 : Go.Proofs.SlLaysM.n6 Tryz.prog Tryz.sort226_ren := {
  mixed := by kernel_rfl
  f6 := ⟨Tryz.f226.name, by decide, Tryz.func226.trans (congrArg some (by kernel_rfl))⟩
  f8 := Tryz.func244.trans (congrArg some (by kernel_rfl))
  f9 := ⟨Tryz.f243.name, by decide, Tryz.func243.trans (congrArg some (by kernel_rfl))⟩
  f19 := Tryz.func260.trans (congrArg some (by kernel_rfl))
  f20 := Tryz.func261.trans (congrArg some (by kernel_rfl))
  f21 := ⟨Tryz.f251.name, by decide, Tryz.func251.trans (congrArg some (by kernel_rfl))⟩
  f22 := ⟨Tryz.f252.name, by decide, Tryz.func252.trans (congrArg some (by kernel_rfl))⟩
  f23 := ⟨Tryz.f253.name, by decide, Tryz.func253.trans (congrArg some (by kernel_rfl))⟩
  f24 := ⟨Tryz.f254.name, by decide, Tryz.func254.trans (congrArg some (by kernel_rfl))⟩
  f25 := ⟨Tryz.f255.name, by decide, Tryz.func255.trans (congrArg some (by kernel_rfl))⟩
  f26 := ⟨Tryz.f256.name, by decide, Tryz.func256.trans (congrArg some (by kernel_rfl))⟩
  f27 := ⟨Tryz.f257.name, by decide, Tryz.func257.trans (congrArg some (by kernel_rfl))⟩
  f28 := ⟨Tryz.f258.name, by decide, Tryz.func258.trans (congrArg some (by kernel_rfl))⟩
  f29 := ⟨Tryz.f259.name, by decide, Tryz.func259.trans (congrArg some (by kernel_rfl))⟩
  f31 := Tryz.func280.trans (congrArg some (by kernel_rfl))
  f32 := Tryz.func281.trans (congrArg some (by kernel_rfl))
  f36 := ⟨Tryz.f279.name, by decide, Tryz.func279.trans (congrArg some (by kernel_rfl))⟩
  f37 := ⟨Tryz.f282.name, by decide, Tryz.func282.trans (congrArg some (by kernel_rfl))⟩
  f38 := ⟨Tryz.f283.name, by decide, Tryz.func283.trans (congrArg some (by kernel_rfl))⟩
  f39 := ⟨Tryz.f284.name, by decide, Tryz.func284.trans (congrArg some (by kernel_rfl))⟩
  f41 := ⟨Tryz.f285.name, by decide, Tryz.func285.trans (congrArg some (by kernel_rfl))⟩
  t0 := Tryz.underlying0
  a0 := Tryz.isAgg0
  z0 := Tryz.sizeOf0
  v0 := Tryz.zeroValue0
  t3 := Tryz.underlying3
  a3 := Tryz.isAgg3
  z3 := Tryz.sizeOf3
  v3 := Tryz.zeroValue3
  t4 := Tryz.underlying4
  a4 := Tryz.isAgg4
  z4 := Tryz.sizeOf4
  v4 := Tryz.zeroValue4
  t5 := Tryz.underlying5
  a5 := Tryz.isAgg5
  z5 := Tryz.sizeOf5
  v5 := Tryz.zeroValue5
  t9 := Tryz.underlying9
  a9 := Tryz.isAgg9
  z9 := Tryz.sizeOf9
  v9 := Tryz.zeroValue9
  t26 := Tryz.underlying117
  a26 := Tryz.isAgg117
  z26 := Tryz.sizeOf117
  v26 := Tryz.zeroValue117
  t27 := Tryz.underlying117
  a27 := Tryz.isAgg117
  z27 := Tryz.sizeOf117
  v27 := Tryz.zeroValue117
  t29 := Tryz.underlying9
  a29 := Tryz.isAgg9
  z29 := Tryz.sizeOf9
  v29 := Tryz.zeroValue9
  t32 := Tryz.underlying355
  a32 := Tryz.isAgg355
  z32 := Tryz.sizeOf355
  v32 := Tryz.zeroValue355
  t35 := Tryz.underlying367
  a35 := Tryz.isAgg367
  z35 := Tryz.sizeOf367
  v35 := Tryz.zeroValue367
  t36 := Tryz.underlying368
  a36 := Tryz.isAgg368
  z36 := Tryz.sizeOf368
  v36 := Tryz.zeroValue368
  t41 := Tryz.underlying216
  a41 := Tryz.isAgg216
  z41 := Tryz.sizeOf216
  v41 := Tryz.zeroValue216
  t44 := Tryz.underlying375
  a44 := Tryz.isAgg375
  z44 := Tryz.sizeOf375
  v44 := Tryz.zeroValue375
  t46 := Tryz.underlying377
  a46 := Tryz.isAgg377
  z46 := Tryz.sizeOf377
  v46 := Tryz.zeroValue377
  t53 := Tryz.underlying378
  a53 := Tryz.isAgg378
  z53 := Tryz.sizeOf378
  v53 := Tryz.zeroValue378
  t57 := Tryz.underlying333
  a57 := Tryz.isAgg333
  z57 := Tryz.sizeOf333
  v57 := Tryz.zeroValue333
  t63 := Tryz.underlying383
  a63 := Tryz.isAgg383
  z63 := Tryz.sizeOf383
  v63 := Tryz.zeroValue383
  t64 := Tryz.underlying121
  a64 := Tryz.isAgg121
  z64 := Tryz.sizeOf121
  v64 := Tryz.zeroValue121 }

theorem Tryz.sorts177 (m : Nat) : AnyZ.SortsIn Tryz.prog Tryz.sorted177_ren Fence.wide m :=
  ⟨fun blk off cap ss W hH hblk hsz => callsIn_wide.2 (AnyM.slices_Sort_string Tryz.sort226 blk off cap ss W hH hblk hsz),
   fun p cap W => callsIn_wide.2 (AnyM.slices_Sort_string_none Tryz.sort226 p cap W)⟩
theorem Tryz.maps_Keys_178 (mb : Option Nat) (W : World) : CallsIn Fence.wide 5 Tryz.prog 178 #[.map mb] W fun e w' => e = .returned (.func (.func 227) #[] #[.pointer (some ⟨W.heap.size, 0, none⟩)]) ∧ w' = W.alloc (.cells #[.map mb] 97) :=
  AnyZ.keys_in Tryz.keys178 Fence.wide 5 trivial rfl mb W
set_option maxHeartbeats 1000000 in
theorem Tryz.slices_Sorted_keys_177_178 {H : Type} (b nn : Nat) (D0 : DataW H) (R : Value → Option (DataW H × List MemPlace)) (w : World) (hown : w.ownsMap Tryz.prog 9 R b nn D0) (hmax : Maps.size D0 ≤ maxLen) (hbytes : Maps.size D0 * 16 ≤ 140737488355328) :
    CallsIn Fence.wide 5 Tryz.prog 177 #[.func (.func 227) #[] #[.pointer (some ⟨w.heap.size, 0, none⟩)]] (w.alloc (.cells #[.map (some b)] 97)) fun e w' => ∃ (v : Value) (ss : List (List UInt8)), e = .returned v ∧ ss.Perm (strKeys D0) ∧
      w'.ownsRow (w.alloc (.cells #[.map (some b)] 97)).heap.size 9 1 v ss.length ((ss.mergeSort (fun x y => decide (x ≤ y))).map encStr) ∧ (v = .slice none 0 0 ↔ ss = []) ∧ Below (w.alloc (.cells #[.map (some b)] 97)).heap.size (w.alloc (.cells #[.map (some b)] 97)) w' := by
  have hbl := hown.lt
  have hseq : SeqGives Fence.wide 2 Tryz.prog 227 #[.pointer (some ⟨w.heap.size, 0, none⟩)] encStr (fun ss => ss.Perm (strKeys D0)) (Maps.size D0) (w.alloc (.cells #[.map (some b)] 97)) :=
    AnyZ.keys_gives (ρ := Tryz.keys178_ren) { Tryz.keys178 with } Fence.wide _ trivial rfl (by omega) w.heap.size b nn D0 _ (by simp) (by simp) (by
      obtain ⟨es, clock, hb, Ft, hs, hD⟩ := hown
      exact ⟨es, clock, (Below.heap_alloc _ _ b hbl).trans hb, Ft, hs, hD⟩)
  exact AnyZ.sorted_in Tryz.sorted177 Fence.wide 5 trivial trivial trivial trivial rfl (by omega) (Tryz.sorts177 _) (enters_of Tryz.func226 (by kernel_rfl) rfl) 227 #[.pointer (some ⟨w.heap.size, 0, none⟩)] trivial (enters_of Tryz.func227 (by kernel_rfl) rfl) _ _ hmax hbytes _ hseq
set_option maxHeartbeats 1000000 in
theorem Tryz.slices_Sorted_keys_nil_177_178 (w : World) :
    CallsIn Fence.wide 5 Tryz.prog 177 #[.func (.func 227) #[] #[.pointer (some ⟨w.heap.size, 0, none⟩)]] (w.alloc (.cells #[.map none] 97)) fun e w' => ∃ (v : Value) (ss : List (List UInt8)), e = .returned v ∧ ss = [] ∧
      w'.ownsRow (w.alloc (.cells #[.map none] 97)).heap.size 9 1 v ss.length ((ss.mergeSort (fun x y => decide (x ≤ y))).map encStr) ∧ (v = .slice none 0 0 ↔ ss = []) ∧ Below (w.alloc (.cells #[.map none] 97)).heap.size (w.alloc (.cells #[.map none] 97)) w' := by
  have hseq : SeqGives Fence.wide 2 Tryz.prog 227 #[.pointer (some ⟨w.heap.size, 0, none⟩)] encStr (fun ss : List (List UInt8) => ss = []) 0 (w.alloc (.cells #[.map none] 97)) :=
    AnyZ.keys_gives_nil (ρ := Tryz.keys178_ren) { Tryz.keys178 with } Fence.wide _ trivial rfl w.heap.size _ (by simp) (by simp)
  exact AnyZ.sorted_in Tryz.sorted177 Fence.wide 5 trivial trivial trivial trivial rfl (by omega) (Tryz.sorts177 _) (enters_of Tryz.func226 (by kernel_rfl) rfl) 227 #[.pointer (some ⟨w.heap.size, 0, none⟩)] trivial (enters_of Tryz.func227 (by kernel_rfl) rfl) _ 0 (Nat.zero_le _) (by omega) _ hseq
end Go.Proofs

/- Files: all files by name. -/
namespace Go.Proofs.YtdmkjbdlidadiaaGreat
open Go.RowKit Go.Maps

def Ob.bytes : Ob → List UInt8
  | .file b => b
  | _ => []
end Go.Proofs.YtdmkjbdlidadiaaGreat

/- The reference's kernel: Files. -/
namespace Go.Proofs.YtdmkjbdlidadiaaGreat
open Go.RowKit

end Go.Proofs.YtdmkjbdlidadiaaGreat

/- The reference's kernel: Screens. -/
namespace Go.Proofs.YtdmkjbdlidadiaaGreat
open Go.RowKit

end Go.Proofs.YtdmkjbdlidadiaaGreat

/- The reference's kernel: Drop. -/
namespace Go.Proofs.YtdmkjbdlidadiaaGreat
open Go.RowKit

theorem RK.lose {W W' : World} {B : Nat → Prop} {ρ : Nat → Option Tag} {I : RI} {K : KS} (h : RK W B ρ I K) {x : De} (hx : x ∈ K.de) {v' : Value}
    (h1 : W'.heap[I.kb]? = some (.cells ([I.vT, v', .int .i64 K.next, .pointer (some ⟨I.pb, 0, none⟩), .int .i64 K.reads, .int .i64 K.writes] : List Value).toArray 153 (0, 0)))
    (h2 : W'.ownsRow 0 262 1 v' (K.lose x.n).de.length ((K.lose x.n).de.map (fun d => .pointer (some ⟨I.db d.n, 0, none⟩))))
    (h4 : ∀ k, v'.ownBlock = some k → W.heap.size ≤ k)
    (hk : ∀ k, k < W.heap.size → k ≠ I.kb → k ≠ I.db x.n → W'.heap[k]? = W.heap[k]?) (hs : W.heap.size ≤ W'.heap.size) :
    ∃ ρ', RK W' B ρ' { I with vD := v' } (K.lose x.n) ∧ ∀ k t, ρ k = some t → ρ' k = some t := by
  obtain ⟨ρ', hρ⟩ : ∃ ρ' : Nat → Option Tag, ∀ k, (k < W.heap.size → ρ' k = ρ k) ∧ (¬ k < W.heap.size → (v'.ownBlock = some k → ρ' k = some .drow) ∧ (v'.ownBlock ≠ some k → ρ' k = none)) :=
    ⟨fun k => if k < W.heap.size then ρ k else if v'.ownBlock = some k then some .drow else none, fun k => ⟨fun hk => if_pos hk, fun hk => ⟨fun e => (if_neg hk).trans (if_pos e), fun e => (if_neg hk).trans (if_neg e)⟩⟩⟩
  have old : ∀ k t, ρ k = some t → ρ' k = some t := fun k t e => by rw [(hρ k).1 (h.lt k t e).2]; exact e
  have kr := (h.comp .kern).2
  have xr := (h.comp (.desc x.n) x hx rfl).2
  have keep : ∀ t, t ≠ .kern → t ≠ .desc x.n → RComp W' B ρ I K t := fun t n1 n2 => (h.comp t).keep (fun k e hlt => hk k hlt (fun e' => by subst e'; rw [kr] at e; exact n1 (Option.some.inj e).symm) (fun e' => by subst e'; rw [xr] at e; exact n2 (Option.some.inj e).symm)) hs
  have mem : ∀ d, d ∈ (K.lose x.n).de → d ∈ K.de ∧ d.n ≠ x.n := fun d hd => by
    have := List.mem_filter.1 hd
    exact ⟨this.1, by simpa using this.2⟩
  refine ⟨ρ', ⟨fun t => ?_, fun k t e => ?_, ?_, fun k e => h.up k (Nat.le_trans hs e)⟩, old⟩
  · cases t with
    | kern => exact ⟨h1, old _ _ kr⟩
    | trow => have := keep .trow (by simp) (by simp); exact ⟨this.1, fun k e => old _ _ (this.2 k e)⟩
    | drow => exact ⟨h2, fun k e => ((hρ k).2 (by have := h4 k e; omega)).1 e⟩
    | plan => have := keep .plan (by simp) (by simp); exact ⟨this.1, old _ _ this.2.1, fun k e => old _ _ (this.2.2 k e)⟩
    | thing j => intro hj; have := keep (.thing j) (by simp) (by simp) hj; exact ⟨this.1, old _ _ this.2⟩
    | obj j => intro hj; have := keep (.obj j) (by simp) (by simp) hj; exact ⟨this.1.mono fun k e => old _ _ e, this.2⟩
    | desc n =>
      intro d hd e
      obtain ⟨hd1, hd2⟩ := mem d hd
      have := keep (.desc n) (by simp) (by simpa using fun e' => hd2 (e.trans e')) d hd1 e
      exact ⟨this.1, old _ _ this.2⟩
  · by_cases hlt : k < W.heap.size
    · rw [(hρ k).1 hlt] at e; exact ⟨(h.lt k t e).1, Nat.lt_of_lt_of_le (h.lt k t e).2 hs⟩
    · by_cases hv : v'.ownBlock = some k
      · exact ⟨h.up k (by omega), (h2.lt k hv).2⟩
      · rw [((hρ k).2 hlt).2 hv] at e; cases e
  · exact ⟨Nat.le_trans (List.length_filter_le _ _) h.ok.few, h.ok.named, fun d hd => h.ok.th d (mem d hd).1, h.ok.nm, fun d hd => h.ok.num d (mem d hd).1, fun d hd d' hd' e => h.ok.once d (mem d hd).1 d' (mem d' hd').1 e, fun d hd => h.ok.flags d (mem d hd).1, fun d hd => h.ok.pos d (mem d hd).1, fun d hd => h.ok.held d (mem d hd).1, h.ok.plan⟩
def leftTo (L : List De) (n : Nat) (k : Nat) : List De := (L.take k).filter fun y => decide (y.n ≠ n)
theorem leftTo_next (L : List De) (n k : Nat) (hk : k < L.length) : leftTo L n (k + 1) = if L[k].n = n then leftTo L n k else leftTo L n k ++ [L[k]] := by
  unfold leftTo
  rw [List.take_add_one, List.getElem?_eq_getElem hk, List.filter_append]
  by_cases e : L[k].n = n
  · rw [if_pos e]; simp [e]
  · rw [if_neg e]; simp [e]
theorem leave_ok2 {q : List UInt8} {rd wt : Nat} {b : Bool} (h : (Ob.pipe q rd wt).ok) : (Ob.pipe q (leaveR b rd wt) (leaveW b rd wt)).ok := by
  have h1 := h.2.1
  have h2 := h.2.2
  refine ⟨h.1, ?_, ?_⟩
  · unfold leaveR; repeat' split
    all_goals omega
  · unfold leaveW; repeat' split
    all_goals omega
theorem dinfo : ∃ j, Tryz.prog.info? 265 = some j ∧ j.size ≠ 0 := by
  have h5 : (Tryz.prog.info? 265).map (fun i => i.size) = some 5 := by kernel_rfl
  cases h6 : Tryz.prog.info? 265 with
  | none => rw [h6] at h5; cases h5
  | some j =>
    rw [h6] at h5
    have h7 : j.size = 5 := by simpa using h5
    exact ⟨j, rfl, by omega⟩
theorem dneq_same (a : Addr) (w : World) : (binOp .neq 262 (.pointer (some a)) (.pointer (some a))).run Tryz.prog w = .ok (.bool false) w := by
  obtain ⟨j, hj, -⟩ := dinfo
  exact Go.Lib.run_neq_ptr_same w a Tryz.underlying262 hj
theorem dneq_other {a b : Addr} {ca cb : Array Value} {ta tb : TypeId} (w : World) (hne : a ≠ b) (ha : w.heap[a.block]? = some (.cells ca ta (0, 0))) (hb : w.heap[b.block]? = some (.cells cb tb (0, 0))) : (binOp .neq 262 (.pointer (some a)) (.pointer (some b))).run Tryz.prog w = .ok (.bool true) w := by
  obtain ⟨j, hj, hsz⟩ := dinfo
  have h : ∀ d : Nat, (Op.equalIn (d + 1) 262 (.pointer (some a)) (.pointer (some b))).run Tryz.prog w = .ok false w := fun d => by
    simp [Op.equalIn, run_underlying Tryz.underlying262, sizeOf, typeInfo, hj, hsz, run_sameAddr_other w hne ha hb]
  simp only [binOp]
  simp [Op.equal, Op.maxDepth, h 9999]
def RKErr (w : World) (B : Nat → Prop) (kb : Nat) (E : Int) (K' : KS) (e : Ending) (w' : World) : Prop := ∃ ρ' I', e = .returned (.int .i64 E) ∧ RK w' B ρ' I' K' ∧ I'.kb = kb ∧ Turned B w w'
set_option maxRecDepth 100000 in
set_option maxHeartbeats 8000000 in
theorem rkdrop_any (B : Nat → Prop) (ρ : Nat → Option Tag) (I : RI) (K : KS) (d : Int) (w : World) (h : RK w B ρ I K) :
    Calls Tryz.prog 73 #[.pointer (some ⟨I.kb, 0, none⟩), .int .i64 d] w (RKErr w B I.kb (K.dropE d) (K.dropK d)) := by
  have HF := hide (rfind_any B ρ I K d w h)
  cases hx : K.find d with
  | none =>
    rw [hx] at HF
    rw [show K.dropE d = 64 by unfold KS.dropE; rw [hx], show K.dropK d = K by unfold KS.dropK; rw [hx]]
    have HX : Hid (RKErr w B I.kb 64 K (.returned (.int .i64 64)) w) := hide ⟨ρ, I, rfl, h, rfl, Turned.refl _ _⟩
    clear h
    go_enter Tryz.func73, Tryz.ntmps73
    go_wp2_with fail
    refine HF.out.mono ?_
    rintro e w1 ⟨rfl, rfl⟩
    go_wp2
    go_ret
    exact HX.out
  | some x =>
    rw [hx] at HF
    rw [show K.dropE d = 0 by unfold KS.dropE; rw [hx]]
    have hm := (KS.find_some hx).1
    have hd := h.de hm
    have c1 := hd.t
    have c3 := hd.f
    have c4 := hd.h
    have c4s := hd.soft 4
    have hheld := h.ok.held x hm
    by_cases h1 : 1 < x.held
    · have hK : K.dropK d = K.setDe { x with held := x.held - 1 } := by unfold KS.dropK; rw [hx]; simp only; rw [if_pos h1]
      rw [hK]
      obtain ⟨hK2, hT2⟩ := h.setDe (x := x) (x' := { x with held := x.held - 1 }) hm rfl rfl rfl (h.ok.pos x hm) (by show 1 ≤ x.held - 1 ∧ x.held - 1 ≤ 1024; omega) 4 (.int .i64 ((x.held : Int) - 1)) (by simp; omega)
      have HX : Hid (RKErr w B I.kb 0 (K.setDe { x with held := x.held - 1 }) (.returned (.int .i64 0)) (w.setCell ⟨I.db x.n, 4, none⟩ (.int .i64 ((x.held : Int) - 1)))) := hide ⟨ρ, I, rfl, hK2, rfl, hT2.mono fun k e => (h.lt k _ e).1⟩
      have c5 : (w.setCell ⟨I.db x.n, 4, none⟩ (.int .i64 ((x.held : Int) - 1))).cell? ⟨I.db x.n, 4, none⟩ = some (.int .i64 ((x.held : Int) - 1)) := World.cell?_setCell_same _ _ _ c4
      have hg : (0 : Int) < (x.held : Int) - 1 := by omega
      clear h hd hK2 hT2 hK
      go_enter Tryz.func73, Tryz.ntmps73
      go_wp2_with fail
      refine HF.out.mono ?_
      rintro e w1 ⟨rfl, rfl⟩
      simp only [Option.map_some]
      go_wp2
      go_ret
      exact HX.out
    · have hh1 : x.held = 1 := by omega
      have hK : K.dropK d = (match K.tho x with | .pipe q rd wt => (K.setOb x.th (.pipe q (leaveR (bit x.flags 2) rd wt) (leaveW (bit x.flags 2) rd wt))).lose x.n | _ => K.lose x.n) := by unfold KS.dropK; rw [hx]; simp only; rw [if_neg h1]; first | done | rfl
      rw [hK]
      obtain ⟨Kf, hKf⟩ : ∃ Kf, Kf = K.dropK d := ⟨_, rfl⟩
      rw [← hK, ← hKf]
      rw [hK] at hKf
      have HKf := hide hKf
      clear hKf
      have c4' : w.cell? ⟨I.db x.n, 4, none⟩ = some (.int .i64 1) := by rw [c4, hh1]; rfl
      have hb := (h.comp .kern).1
      have hkr := (h.comp .kern).2
      have hdr := (h.comp .drow).2
      have hxr := (h.comp (.desc x.n) x hm rfl).2
      have hrow := (h.comp .drow).1
      have hdbl : I.db x.n < w.heap.size := World.block_lt_of_cell? w _ c4
      have hkl : I.kb < w.heap.size := (Array.getElem?_eq_some_iff.1 hb).1
      have hkd : I.kb ≠ I.db x.n := fun e => by rw [e, hxr] at hkr; cases hkr
      obtain ⟨va, vc, hv⟩ := owns_slice hrow
      obtain ⟨wA, hwA⟩ : ∃ wA, wA = w.setCell ⟨I.db x.n, 4, none⟩ (.int .i64 0) := ⟨_, rfl⟩
      have hsA : wA.heap.size = w.heap.size := by rw [hwA]; simp [World.setCell]
      have hothA : ∀ k : Nat, k ≠ I.db x.n → wA.heap[k]? = w.heap[k]? := fun k hk => by rw [hwA]; exact Below.heap_setCell _ _ _ _ hk
      have c5 : wA.cell? ⟨I.db x.n, 4, none⟩ = some (.int .i64 0) := by rw [hwA]; exact World.cell?_setCell_same _ _ _ c4
      have c1A : wA.cell? ⟨I.db x.n, 1, none⟩ = some (.pointer (some ⟨I.tb x.th, 0, none⟩)) := by rw [hwA, World.cell?_setCell_other _ _ _ _ (by simp)]; exact c1
      have c3A : wA.cell? ⟨I.db x.n, 2, none⟩ = some (.int .i64 x.flags) := by rw [hwA, World.cell?_setCell_other _ _ _ _ (by simp)]; exact c3
      have hbA : wA.heap[I.kb]? = some (.cells ([I.vT, I.vD, .int .i64 K.next, .pointer (some ⟨I.pb, 0, none⟩), .int .i64 K.reads, .int .i64 K.writes] : List Value).toArray 153 (0, 0)) := (hothA I.kb hkd).trans hb
      have k1A : wA.cell? ⟨I.kb, 1, none⟩ = some (.slice va K.de.length vc) := by rw [cell_of_row wA I.kb 1 _ _ _ hbA, ← hv]; rfl
      have hrowA : wA.ownsRow 0 262 1 (.slice va K.de.length vc) K.de.length (K.de.map fun d => .pointer (some ⟨I.db d.n, 0, none⟩)) := by
        rw [← hv]
        exact owns_keep hrow (fun k e => hothA k (fun e' => by have h9 := hdr k e; rw [e', hxr] at h9; cases h9))
      have tkA : wA.cell? ⟨I.tb x.th, 1, none⟩ = some (.int .i64 (K.tho x).kind) := by
        refine (World.cell?_of_block (w := w) (a := ⟨I.tb x.th, 1, none⟩) (hothA _ (fun e' => ?_))).trans hd.kind
        have h9 := (h.comp (.thing x.th) hd.lt).2
        rw [show I.tb x.th = I.db x.n from e', hxr] at h9
        cases h9
      have HDb : Hid (∀ y ∈ K.de, I.db y.n = I.db x.n → y = x) := hide (fun y hy e => by
        have h9 := (h.comp (.desc y.n) y hy rfl).2
        rw [e, hxr] at h9
        have h8 : x.n = y.n := by simpa using h9
        exact h.ok.once y hy x hm h8.symm)
      have HRw := hide hrowA
      have HXb := hide (by have h5 := heap_setCell_same 4 (.int .i64 0) (h.comp (.desc x.n) x hm rfl).1; rw [← hwA] at h5; exact h5)
      have HH := hide h
      have HBA := hide hbA
      have hfew := h.ok.few
      have HO2 := hide (And.intro hothA (And.intro hkd hkl))
      have HLt := hide (And.intro hd.lt hdbl)
      clear h hd hK hb hkr hdr hxr hrow hbA hrowA hothA c1 c3 c4
      go_enter Tryz.func73, Tryz.ntmps73
      go_wp2_with fail
      refine HF.out.mono ?_
      rintro e w ⟨rfl, rfl⟩
      simp only [Option.map_some]
      go_wp2_with fail
      rw [← hwA]
      go_loopw [6, 7] (fun lv iv wr => ∃ k : Nat, iv = .int .i64 k ∧ k ≤ K.de.length ∧ Hid (wr.ownsRow wA.heap.size 262 1 lv (leftTo K.de x.n k).length ((leftTo K.de x.n k).map fun d => .pointer (some ⟨I.db d.n, 0, none⟩))) ∧ Hid (Below wA.heap.size wA wr)) (fun _ iv _ => K.de.length - (intOf iv).toNat)
      case atStart => exact ⟨0, rfl, Nat.zero_le _, hide (World.ownsRow_nil _ _ _ _), hide (Below.refl _ _)⟩
      case round =>
        obtain ⟨k, rfl, hk, HO, HB⟩ := hrel
        obtain ⟨la, lc, rfl⟩ := owns_slice HO.out
        have hsz := HB.out.size
        have hklA : I.kb < wA.heap.size := by rw [hsA]; exact HO2.out.2.2
        have k1 := (HB.out.cell (p := ⟨I.kb, 1, none⟩) hklA).trans k1A
        by_cases hlt : k < K.de.length
        · obtain ⟨b, rfl⟩ : ∃ b, va = some ⟨b, 0, none⟩ := by
            rcases HRw.out.2 with ⟨h0, _⟩ | ⟨g, cap, cur, h1, _⟩
            · simp only [Value.slice.injEq] at h0; omega
            · simp only [Value.slice.injEq] at h1; exact ⟨g, h1.1⟩
          have hcell := HRw.out.cellAt k (by simpa using hlt)
          rw [List.getElem?_map, List.getElem?_eq_getElem hlt] at hcell
          simp only [Option.map_some] at hcell
          have r0 := (HB.out.cell (p := ⟨b, k, none⟩) (World.block_lt_of_cell? wA _ hcell)).trans hcell
          have hk1 : (0 : Int) ≤ (k : Int) := by omega
          have hk2 : (k : Int) < (K.de.length : Int) := by omega
          obtain ⟨y, hy⟩ : ∃ y, y = K.de[k] := ⟨_, rfl⟩
          have hym : y ∈ K.de := by rw [hy]; exact List.getElem_mem _
          have hnext := leftTo_next K.de x.n k hlt
          rw [← hy] at r0 hnext
          have HNx := hide hnext
          clear hcell hy hnext
          by_cases hyx : y.n = x.n
          · have HNx2 : Hid (leftTo K.de x.n (k + 1) = leftTo K.de x.n k) := hide (by rw [HNx.out, if_pos hyx])
            rw [hyx] at r0
            clear HNx hyx
            have hpe := dneq_same ⟨I.db x.n, 0, none⟩ wr
            go_wp2
            go_roundw
            case rel => exact ⟨k + 1, by go_num, by omega, by rw [HNx2.out]; exact HO, HB⟩
            case measure => simp [intOf]; omega
          · have HNx2 : Hid (leftTo K.de x.n (k + 1) = leftTo K.de x.n k ++ [y]) := hide (by rw [HNx.out, if_neg hyx])
            have hne : ¬ I.db y.n = I.db x.n := fun e => hyx (by rw [HDb.out y hym e])
            have hBa := recv_below wr (Obj.cells #[.pointer (some ⟨I.db y.n, 0, none⟩)] 262)
            have hcu : (wr.alloc (Obj.cells #[.pointer (some ⟨I.db y.n, 0, none⟩)] 262)).cell? ⟨wr.heap.size, 0, none⟩ = some (.pointer (some ⟨I.db y.n, 0, none⟩)) := by simp only [World.cell?, heap_alloc_new]; rfl
            have hlf : (leftTo K.de x.n k).length ≤ K.de.length := Nat.le_trans (List.length_filter_le _ _) (by rw [List.length_take]; omega)
            obtain ⟨s', w5, hrun, HO5, hg5, hb5⟩ := run_append_dptr (wr.alloc (Obj.cells #[.pointer (some ⟨I.db y.n, 0, none⟩)] 262)) 150 wA.heap.size _ (leftTo K.de x.n k).length _ wr.heap.size 1 _ rfl (owns_below HO.out hBa) hcu (by omega) (by have := hBa.size; omega)
            obtain ⟨sa, sc, rfl⟩ := owns_slice HO5.out
            have HR := hide hrun
            have HB5 : Hid (Below wA.heap.size wA w5) := hide ((HB.out.trans (hBa.mono hsz)).grown hg5 (by have := hBa.size; omega) (fun j e => (HO.out.lt j e).1))
            have HO6 : Hid (w5.ownsRow wA.heap.size 262 1 (.slice sa ((leftTo K.de x.n k).length + 1) sc) (leftTo K.de x.n (k + 1)).length ((leftTo K.de x.n (k + 1)).map fun d => .pointer (some ⟨I.db d.n, 0, none⟩))) := hide (by rw [HNx2.out, List.map_append, List.length_append]; exact HO5.out)
            have r1 := (hBa.cell (p := ⟨b, k, none⟩) (World.block_lt_of_cell? wr _ r0)).trans r0
            have hpe : (binOp .neq 262 (.pointer (some ⟨I.db y.n, 0, none⟩)) (.pointer (some ⟨I.db x.n, 0, none⟩))).run Tryz.prog wr = .ok (.bool true) wr := by
              have hy1 := (HH.out.comp (.desc y.n) y hym rfl).1
              have hyl : I.db y.n < w.heap.size := (Array.getElem?_eq_some_iff.1 hy1).1
              have hy2 := (HB.out.block _ (by omega)).trans ((HO2.out.1 _ hne).trans hy1)
              have hx2 := (HB.out.block _ (by have := HLt.out.2; omega)).trans HXb.out
              exact dneq_other wr (fun e => hne (congrArg Addr.block e)) hy2 hx2
            clear HNx hrun hg5 hb5 HO5 hcu hBa
            go_wp2_with (first | (at_builtin; refine Lib.wpList_append_run _ rfl _ _ _ _ rfl _ _ rfl rfl _ _ HR.out ?_) | fail)
            go_roundw
            case rel => exact ⟨k + 1, by go_num, by omega, HO6, HB5⟩
            case measure => simp [intOf]; omega
        · obtain rfl : k = K.de.length := by omega
          have hle : leftTo K.de x.n K.de.length = (K.lose x.n).de := by unfold leftTo KS.lose; rw [List.take_length]
          have hO := HO.out
          have hbr := (HB.out.block I.kb hklA).trans HBA.out
          have fz : wr.frozen? ⟨I.kb, 1, none⟩ = false := frozen_of_row wr I.kb 1 _ _ hbr
          have hb9 := heap_setCell_same 1 (.slice la (leftTo K.de x.n K.de.length).length lc) hbr
          simp only [List.set_cons_succ, List.set_cons_zero] at hb9
          obtain ⟨w9, hw9⟩ : ∃ w9, w9 = wr.setCell ⟨I.kb, 1, none⟩ (.slice la (leftTo K.de x.n K.de.length).length lc) := ⟨_, rfl⟩
          have hs9 : w9.heap.size = wr.heap.size := by rw [hw9]; simp [World.setCell]
          have hoth9 : ∀ k : Nat, k ≠ I.kb → w9.heap[k]? = wr.heap[k]? := fun k hk => by rw [hw9]; exact Below.heap_setCell _ _ _ _ hk
          rw [← hw9] at hb9
          have hlk : ∀ k, (Value.slice la (leftTo K.de x.n K.de.length).length lc).ownBlock = some k → wA.heap.size ≤ k := fun k e => (hO.lt k e).1
          obtain ⟨ρ9, hK9, hold9⟩ := HH.out.lose (W' := w9) hm (v' := .slice la (leftTo K.de x.n K.de.length).length lc) hb9 (by
              rw [← hle]
              exact owns_mono (owns_keep hO (fun k e => hoth9 k (fun e' => by have := hlk k e; omega))) (by omega)) (fun k e => by have := hlk k e; omega) (fun k hk n1 n2 => (hoth9 k n1).trans ((HB.out.block k (by omega)).trans (HO2.out.1 k n2))) (by omega)
          have HT9 : Hid (Turned B w w9) := hide (by
            have hTA : Turned B w wA := by rw [hwA]; exact (Turned.refl _ _).set (.inl (HH.out.lt _ _ (HH.out.comp (.desc x.n) x hm rfl).2).1)
            have hTr : Turned B wA wr := Turned.of_below HB.out
            have hT9 : Turned B wr w9 := by rw [hw9]; exact (Turned.refl _ _).set (.inl (HH.out.lt _ _ (HH.out.comp .kern).2).1)
            exact (hTA.trans hTr (fun _ _ e => e)).trans hT9 (fun _ _ e => e))
          have q1 : w9.cell? ⟨I.db x.n, 1, none⟩ = some (.pointer (some ⟨I.tb x.th, 0, none⟩)) := (World.cell?_of_block (w := wr) (a := ⟨I.db x.n, 1, none⟩) (hoth9 _ (fun e => hkd e.symm))).trans ((HB.out.cell (p := ⟨I.db x.n, 1, none⟩) (World.block_lt_of_cell? wA _ c1A)).trans c1A)
          have q3 : w9.cell? ⟨I.db x.n, 2, none⟩ = some (.int .i64 x.flags) := (World.cell?_of_block (w := wr) (a := ⟨I.db x.n, 2, none⟩) (hoth9 _ (fun e => hkd e.symm))).trans ((HB.out.cell (p := ⟨I.db x.n, 2, none⟩) (World.block_lt_of_cell? wA _ c3A)).trans c3A)
          have hthl := HLt.out.1
          have ht9 := (hK9.comp (.thing x.th)) hthl
          have hto : (K.lose x.n).tho x = K.tho x := rfl
          obtain ⟨-, tk, -, -⟩ := hK9.tcell (i := x.th) hthl
          rw [show (K.lose x.n).obOf x.th = K.tho x from rfl] at tk
          have tk' : w9.cell? ⟨I.tb x.th, 1, none⟩ = some (.int .i64 (K.tho x).kind) := tk
          have hob : RObj w9 (fun k => ρ9 k = some (.obj x.th)) (I.ob x.th) (K.tho x) ∧ (K.tho x).ok := by rw [KS.tho_eq hthl]; exact (hK9.comp (.obj x.th)) hthl
          have HNt : Hid ((¬ ρ9 (I.db x.n) = some (.obj x.th)) ∧ ¬ ρ9 (I.tb x.th) = some (.obj x.th)) := hide (And.intro (fun e => by rw [hold9 _ _ (HH.out.comp (.desc x.n) x hm rfl).2] at e; cases e) (fun e => by rw [hold9 _ _ ((HH.out.comp (.thing x.th)) hthl).2] at e; cases e))
          have HK9 := hide hK9
          have HTh := hide ht9.1
          have HOb := hide hob
          clear hO hbr hb9 hs9 hoth9 hK9 ht9 hob HO HB HRw HBA HXb tk hlk hle
          subst hw9
          cases ho : K.tho x with
          | file f =>
            rw [ho] at tk'
            simp only [Ob.kind] at tk'
            have HX : Hid (RKErr w B I.kb 0 (K.lose x.n) (.returned (.int .i64 0)) (wr.setCell ⟨I.kb, 1, none⟩ (.slice la (leftTo K.de x.n K.de.length).length lc))) := hide ⟨ρ9, _, rfl, HK9.out, rfl, HT9.out⟩
            have HKg : Hid (Kf = K.lose x.n) := hide (by rw [HKf.out, ho])
            go_wp2
            go_ret
            rw [HKg.out]
            exact HX.out
          | term ls scr =>
            rw [ho] at tk'
            simp only [Ob.kind] at tk'
            have HX : Hid (RKErr w B I.kb 0 (K.lose x.n) (.returned (.int .i64 0)) (wr.setCell ⟨I.kb, 1, none⟩ (.slice la (leftTo K.de x.n K.de.length).length lc))) := hide ⟨ρ9, _, rfl, HK9.out, rfl, HT9.out⟩
            have HKg : Hid (Kf = K.lose x.n) := hide (by rw [HKf.out, ho])
            go_wp2
            go_ret
            rw [HKg.out]
            exact HX.out
          | pipe q rd wt =>
            rw [ho] at tk'
            simp only [Ob.kind] at tk'
            have t4 : (wr.setCell ⟨I.kb, 1, none⟩ (.slice la (leftTo K.de x.n K.de.length).length lc)).cell? ⟨I.tb x.th, 4, none⟩ = some (.pointer (some ⟨I.ob x.th, 0, none⟩)) := by
              have h5 := HTh.out
              have h6 : K.th[x.th].ob = .pipe q rd wt := by rw [← KS.tho_eq hthl]; exact ho
              refine (cell_of_row _ _ 4 _ _ _ h5).trans ?_
              show (tcells K.th[x.th] (I.ob x.th)).toArray[4]? = _
              simp [tcells, h6]
            have hOb := HOb.out
            rw [ho] at hOb
            obtain ⟨v2, hv2⟩ : ∃ v2, bits .and .i64 x.flags 2 = v2 := ⟨_, rfl⟩
            have hbt : bit x.flags 2 = !(v2 == 0) := by unfold bit; rw [show fbit x.flags 2 = v2 from hv2]
            have HOd := hide (And.intro (hOb.1.keep (W' := (wr.setCell ⟨I.kb, 1, none⟩ (.slice la (leftTo K.de x.n K.de.length).length lc)).drew) (fun _ _ _ => rfl) (Nat.le_refl _)) hOb.2)
            have HKd := hide (HK9.out.below (Below.refl _ (wr.setCell ⟨I.kb, 1, none⟩ (.slice la (leftTo K.de x.n K.de.length).length lc))).drew)
            have HBt : Hid (bit x.flags 2 = !(v2 == 0)) := hide hbt
            have hthk : ((K.lose x.n).setOb x.th (.pipe q rd wt)).th.length = K.th.length := by rw [setOb_len]; rfl
            have h6 : K.th[x.th].ob = .pipe q rd wt := by rw [← KS.tho_eq hthl]; exact ho
            have H6 := hide h6
            have HKg : Hid (Kf = (K.setOb x.th (.pipe q (leaveR (bit x.flags 2) rd wt) (leaveW (bit x.flags 2) rd wt))).lose x.n) := hide (by rw [HKf.out, ho])
            clear hOb hbt h6 hthk
            have hvc : v2 = 0 ∨ (¬ v2 = 0 ∧ (v2 == 0) = false ∧ (v2 != 0) = true) := by
              by_cases e : v2 = 0
              · exact .inl e
              · exact .inr ⟨e, by simpa using e, by simpa using e⟩
            rcases hvc with rfl | ⟨g1, g2, g3⟩
            all_goals
              go_wp2_with fail
              generalize (wr.setCell ⟨I.kb, 1, none⟩ (.slice la (leftTo K.de x.n K.de.length).length lc)) = w9 at *
              go_region_held3 (fun w' => w'.cell? ⟨I.db x.n, 1, none⟩ = some (.pointer (some ⟨I.tb x.th, 0, none⟩)) ∧ w'.cell? ⟨I.tb x.th, 4, none⟩ = some (.pointer (some ⟨I.ob x.th, 0, none⟩)) ∧ w'.cell? ⟨I.db x.n, 2, none⟩ = some (.int .i64 x.flags))
                (first | exact K5 | go_keep)
                (first
                  | (go_at_call 176; refine (ob_pleave _ _ q rd wt _ _ HOd.out.1).mono ?_; rintro _ wB ⟨rfl, hsB⟩; obtain ⟨O', hB1, hB2, hB3⟩ := hsB; have K5 : wB.cell? ⟨I.db x.n, 1, none⟩ = some (.pointer (some ⟨I.tb x.th, 0, none⟩)) ∧ wB.cell? ⟨I.tb x.th, 4, none⟩ = some (.pointer (some ⟨I.ob x.th, 0, none⟩)) ∧ wB.cell? ⟨I.db x.n, 2, none⟩ = some (.int .i64 x.flags) := ⟨hB3.cell q1 HNt.out.1, hB3.cell t4 HNt.out.2, hB3.cell q3 HNt.out.1⟩)
                  | fail)
              obtain ⟨ρ7, hK7, -, hT7⟩ := HKd.out.setOb (i := x.th) hthl ⟨O', hB1, hB2, hB3⟩ (by show _ = K.th[x.th].ob.kind; rw [H6.out]; rfl) (leave_ok2 HOd.out.2)
              have HX : Hid (RKErr w B I.kb 0 ((K.setOb x.th (.pipe q (leaveR (bit x.flags 2) rd wt) (leaveW (bit x.flags 2) rd wt))).lose x.n) (.returned (.int .i64 0)) wB) := hide (by
                rw [HBt.out]
                first
                  | exact ⟨ρ7, _, rfl, hK7, rfl, HT9.out.trans ((Turned.of_below (S := B) (Below.refl _ w9).drew).trans hT7 (fun _ _ e => e)) (fun _ _ e => e)⟩
                  | (rw [g2]; exact ⟨ρ7, _, rfl, hK7, rfl, HT9.out.trans ((Turned.of_below (S := B) (Below.refl _ w9).drew).trans hT7 (fun _ _ e => e)) (fun _ _ e => e)⟩))
              clear hK7 hT7 hB1 hB2 hB3 K5
              go_wp2
              go_ret
              rw [HKg.out]
              exact HX.out
end Go.Proofs.YtdmkjbdlidadiaaGreat

/- The page's kernel of a setup. -/
namespace Go.Proofs.YtdmkjbdlidadiaaGreat
open Go.RowKit

end Go.Proofs.YtdmkjbdlidadiaaGreat

/- The reference's kernel within a set of blocks: what each call leaves of it, and of all else. -/
namespace Go.Proofs.YtdmkjbdlidadiaaGreat
open Go.RowKit

def RAt (w : World) (O : Nat → Prop) (kb : Nat) (K : KS) : Prop := ∃ (B : Nat → Prop) (ρ : Nat → Option Tag) (I : RI), RK w B ρ I K ∧ I.kb = kb ∧ ∀ k t, ρ k = some t → O k
def RKStep (w : World) (O : Nat → Prop) (kb : Nat) (K' : KS) (w' : World) : Prop := ∃ O', RAt w' O' kb K' ∧ (∀ k, O' k → O k ∨ w.heap.size ≤ k) ∧ Turned O w w'
theorem RAt.keep {w w' : World} {O : Nat → Prop} {kb : Nat} {K : KS} (h : RAt w O kb K) (hk : ∀ k, O k → k < w.heap.size → w'.heap[k]? = w.heap[k]?) (hs : w.heap.size ≤ w'.heap.size) : RAt w' O kb K := by
  obtain ⟨B, ρ, I, h1, h2, h3⟩ := h
  exact ⟨B, ρ, I, ⟨fun t => (h1.comp t).keep (fun k e hlt => hk k (h3 k t e) hlt) hs, fun k t e => ⟨(h1.lt k t e).1, Nat.lt_of_lt_of_le (h1.lt k t e).2 hs⟩, h1.ok, fun k e => h1.up k (Nat.le_trans hs e)⟩, h2, h3⟩
theorem RAt.below {w w' : World} {O : Nat → Prop} {kb : Nat} {K : KS} (h : RAt w O kb K) (hB : Below w.heap.size w w') : RAt w' O kb K := h.keep (fun k _ hlt => hB.block k hlt) hB.size
theorem RAt.mono {w : World} {O O' : Nat → Prop} {kb : Nat} {K : KS} (h : RAt w O kb K) (hO : ∀ k, O k → O' k) : RAt w O' kb K := by
  obtain ⟨B, ρ, I, h1, h2, h3⟩ := h
  exact ⟨B, ρ, I, h1, h2, fun k t e => hO k (h3 k t e)⟩
theorem RK.left {w w' : World} {O : Nat → Prop} {ρ ρ' : Nat → Option Tag} {I' : RI} {K' : KS} {kb : Nat} (hO : ∀ k t, ρ k = some t → O k) (h : RK w' (fun k => (∃ t, ρ k = some t) ∨ w.heap.size ≤ k) ρ' I' K') (hk : I'.kb = kb) (hT : Turned (fun k => (∃ t, ρ k = some t) ∨ w.heap.size ≤ k) w w') : RKStep w O kb K' w' :=
  ⟨fun k => O k ∨ w.heap.size ≤ k, ⟨_, ρ', I', h, hk, fun k t e => by
    rcases (h.lt k t e).1 with ⟨t', h1⟩ | h1
    · exact .inl (hO k t' h1)
    · exact .inr h1⟩, fun _ e => e, ⟨hT.1, hT.2, hT.3, hT.4, fun k hlt hn => hT.5 k hlt (fun e => by
    rcases e with ⟨t', h1⟩ | h1
    · exact hn (hO k t' h1)
    · omega)⟩⟩
theorem RAt.read {w : World} {O : Nat → Prop} {kb : Nat} {K : KS} (h : RAt w O kb K) (d n : Int) (hr : K.reads < 9223372036854775807) :
    Calls Tryz.prog 63 #[.pointer (some ⟨kb, 0, none⟩), .int .i64 d, .int .i64 n] w fun e w' => ∃ v, e = .returned (.tuple #[v, .int .i64 (K.read d n).2.1]) ∧ Bys w' v (K.read d n).1 ∧ RKStep w O kb (K.read d n).2.2 w' := by
  obtain ⟨B, ρ, I, h1, rfl, h3⟩ := h
  refine (rkread_any _ ρ I K d n w h1.own hr).mono ?_
  rintro e w' ⟨v, ρ', I', h4, h5, h6, h7, h8⟩
  exact ⟨v, h4, h5, RK.left h3 h6 h7 h8⟩
theorem RAt.write {w : World} {O : Nat → Prop} {kb : Nat} {K : KS} (h : RAt w O kb K) (d : Int) (b : List UInt8) (a1 : Option Addr) (cx : Nat) (hr : K.writes < 9223372036854775807) (hb : Bys w (.slice a1 b.length cx) b) (hcap : b.length ≤ cx) (hap : ∀ k, (Value.slice a1 b.length cx).ownBlock = some k → k < w.heap.size ∧ ¬ O k) :
    Calls Tryz.prog 67 #[.pointer (some ⟨kb, 0, none⟩), .int .i64 d, .slice a1 b.length cx] w fun e w' => e = .returned (.tuple #[.int .i64 (K.write d b).1, .int .i64 (K.write d b).2.1]) ∧ RKStep w O kb (K.write d b).2.2 w' := by
  obtain ⟨B, ρ, I, h1, rfl, h3⟩ := h
  refine (rkwrite_any _ ρ I K d b a1 cx w h1.own hr hb hcap (fun k e e' => by
    rcases e' with ⟨t', h4⟩ | h4
    · exact (hap k e).2 (h3 k t' h4)
    · have := (hap k e).1; omega)).mono ?_
  rintro e w' ⟨ρ', I', h4, h6, h7, h8⟩
  exact ⟨h4, RK.left h3 h6 h7 h8⟩
theorem RAt.pipe {w : World} {O : Nat → Prop} {kb : Nat} {K : KS} (h : RAt w O kb K) (hn1 : 1 ≤ K.next) (hn : K.next < 9223372036854775806) :
    Calls Tryz.prog 61 #[.pointer (some ⟨kb, 0, none⟩)] w fun e w' => e = .returned (.tuple #[.int .i64 K.pipe.1, .int .i64 K.pipe.2.1, .int .i64 K.pipe.2.2.1]) ∧ RKStep w O kb K.pipe.2.2.2 w' := by
  obtain ⟨B, ρ, I, h1, rfl, h3⟩ := h
  refine (rkpipe_any _ ρ I K w h1.own hn1 hn).mono ?_
  rintro e w' ⟨ρ', I', h4, h6, h7, h8⟩
  exact ⟨h4, RK.left h3 h6 h7 h8⟩
theorem RAt.drop {w : World} {O : Nat → Prop} {kb : Nat} {K : KS} (h : RAt w O kb K) (d : Int) :
    Calls Tryz.prog 73 #[.pointer (some ⟨kb, 0, none⟩), .int .i64 d] w fun e w' => e = .returned (.int .i64 (K.dropE d)) ∧ RKStep w O kb (K.dropK d) w' := by
  obtain ⟨B, ρ, I, h1, rfl, h3⟩ := h
  refine (rkdrop_any _ ρ I K d w h1.own).mono ?_
  rintro e w' ⟨ρ', I', h4, h6, h7, h8⟩
  exact ⟨h4, RK.left h3 h6 h7 h8⟩
theorem RAt.ok {w : World} {O : Nat → Prop} {kb : Nat} {K : KS} (h : RAt w O kb K) : KOk K := by
  obtain ⟨B, ρ, I, h1, -, -⟩ := h
  exact h1.ok
theorem RKStep.same {w : World} {O : Nat → Prop} {kb : Nat} {K : KS} (h : RAt w O kb K) : RKStep w O kb K w := ⟨O, h, fun _ e => .inl e, Turned.refl _ _⟩
end Go.Proofs.YtdmkjbdlidadiaaGreat

/- The law's examples. -/
namespace Go.Proofs.YtdmkjbdlidadiaaGreat
open Go.RowKit Go.Maps

end Go.Proofs.YtdmkjbdlidadiaaGreat

/- KernPlace: the kernel's states, as values. -/
namespace Go.Proofs.YtdmkjbdlidadiaaGreat
open Go.RowKit Go.Maps

end Go.Proofs.YtdmkjbdlidadiaaGreat

/- KernSays: what a read, a write and the questions ahead of them say, as values. No program. -/
namespace Go.Proofs.YtdmkjbdlidadiaaGreat
open Go.RowKit

end Go.Proofs.YtdmkjbdlidadiaaGreat

/- KernPieces: the kernel's states, as values. -/
namespace Go.Proofs.YtdmkjbdlidadiaaGreat
open Go.RowKit Go.Maps

end Go.Proofs.YtdmkjbdlidadiaaGreat

/- Handles: their calls, those of no kernel, and two kernels side by side. -/
namespace Go.Proofs.YtdmkjbdlidadiaaGreat
open Go.RowKit Go.Maps

theorem KStep.behind {w w1 w' : World} {O : Nat → Prop} {kb : Nat} {K : KS} (h : KStep w1 O kb K w') (hB : Below w.heap.size w w1) : KStep w O kb K w' := by
  obtain ⟨O', h1, h2, h3⟩ := h
  exact ⟨O', h1, fun k e => (h2 k e).imp id (fun e => Nat.le_trans hB.size e), (Turned.of_below hB).trans h3 (fun _ _ e => e)⟩
def Two (W : World) (B kb mb : Nat) (K M : KS) : Prop := ∃ O P, KAt W O kb K ∧ KAt W P mb M ∧ (∀ j, O j → B ≤ j ∧ j < W.heap.size ∧ ¬ P j) ∧ ∀ j, P j → B ≤ j ∧ j < W.heap.size
theorem Two.swap {W : World} {B kb mb : Nat} {K M : KS} (h : Two W B kb mb K M) : Two W B mb kb M K := by
  obtain ⟨O, P, h1, h2, h3, h4⟩ := h
  exact ⟨P, O, h2, h1, fun j e => ⟨(h4 j e).1, (h4 j e).2, fun e' => (h3 j e').2.2 e⟩, fun j e => ⟨(h3 j e).1, (h3 j e).2.1⟩⟩
theorem Two.below {W W' : World} {B kb mb : Nat} {K M : KS} (h : Two W B kb mb K M) (hB : Below W.heap.size W W') : Two W' B kb mb K M := by
  obtain ⟨O, P, h1, h2, h3, h4⟩ := h
  exact ⟨O, P, h1.below hB, h2.below hB, fun j e => ⟨(h3 j e).1, Nat.lt_of_lt_of_le (h3 j e).2.1 hB.size, (h3 j e).2.2⟩, fun j e => ⟨(h4 j e).1, Nat.lt_of_lt_of_le (h4 j e).2 hB.size⟩⟩
theorem KStep.turned {w w' : World} {O : Nat → Prop} {kb : Nat} {K : KS} (h : KStep w O kb K w') : Turned O w w' := by
  obtain ⟨_, _, _, h3⟩ := h
  exact h3
end Go.Proofs.YtdmkjbdlidadiaaGreat

/- The program's kernel and the reference's, side by side. -/
namespace Go.Proofs.YtdmkjbdlidadiaaGreat
open Go.RowKit

theorem RAt.trim {w : World} {O : Nat → Prop} {kb : Nat} {K : KS} (h : RAt w O kb K) : RAt w (fun k => O k ∧ k < w.heap.size) kb K := by
  obtain ⟨B, ρ, I, h1, h2, h3⟩ := h
  exact ⟨B, ρ, I, h1, h2, fun k t e => ⟨h3 k t e, (h1.lt k t e).2⟩⟩
def Duo (W : World) (B kb mb : Nat) (K M : KS) : Prop := ∃ O P, KAt W O kb K ∧ RAt W P mb M ∧ (∀ j, O j → B ≤ j ∧ j < W.heap.size ∧ ¬ P j) ∧ ∀ j, P j → B ≤ j ∧ j < W.heap.size
theorem Duo.below {W W' : World} {B kb mb : Nat} {K M : KS} (h : Duo W B kb mb K M) (hB : Below W.heap.size W W') : Duo W' B kb mb K M := by
  obtain ⟨O, P, h1, h2, h3, h4⟩ := h
  exact ⟨O, P, h1.below hB, h2.below hB, fun j e => ⟨(h3 j e).1, Nat.lt_of_lt_of_le (h3 j e).2.1 hB.size, (h3 j e).2.2⟩, fun j e => ⟨(h4 j e).1, Nat.lt_of_lt_of_le (h4 j e).2 hB.size⟩⟩
end Go.Proofs.YtdmkjbdlidadiaaGreat

/- KernPlays: a call by both. -/
namespace Go.Proofs.YtdmkjbdlidadiaaGreat
open Go.RowKit Go.Maps

structure StIn (B : Nat) (W : World) (x : KSt) (va : Option Addr) (vc : Nat) : Prop where
  by' : Bys W (.slice va x.data.length vc) x.data
  cap : x.data.length ≤ vc
  name : x.name.size ≤ maxLen
  a : I64 x.a
  b : I64 x.b
  c : I64 x.c
  few : x.data.length ≤ 140737488351232
  low : 0 < x.data.length → ∀ k, (Value.slice va x.data.length vc).ownBlock = some k → k < B
end Go.Proofs.YtdmkjbdlidadiaaGreat

/- KernPlays: Read and Write by both. -/
namespace Go.Proofs.YtdmkjbdlidadiaaGreat
open Go.RowKit Go.Maps

theorem RKStep.turned {w w' : World} {O : Nat → Prop} {kb : Nat} {K : KS} (h : RKStep w O kb K w') : Turned O w w' := by
  obtain ⟨_, _, _, hT⟩ := h
  exact hT
end Go.Proofs.YtdmkjbdlidadiaaGreat

/- The reference's memories: Read, Write, Seek. -/
namespace Go.Proofs.YtdmkjbdlidadiaaGreat
open Go.RowKit

def RMStep (w : World) (O : Nat → Prop) (g : Nat) (kind : Int) (S : MS) (w' : World) : Prop := ∃ O', RMemAt w' O' g kind S ∧ (∀ k, O' k → O k ∨ w.heap.size ≤ k) ∧ Turned O w w'
theorem RMemAt.tick {W : World} {O : Nat → Prop} {g : Nat} {kind : Int} {S : MS} {a : Option Addr} {c : Nat} {m : Int} (h1 : W.heap[g]? = some (.cells (rmc kind (.slice a S.l.length c) S.room S.pl (.slice none 0 0) (.slice none 0 0) m) 196))
    (hr : W.ownsRow 0 5 1 (.slice a S.l.length c) S.l.length (S.l.map bv)) (hb : ∀ k, (Value.slice a S.l.length c).ownBlock = some k → O k ∧ k ≠ g) (m' : Int) :
    (W.setCell ⟨g, 8, none⟩ (.int .i64 m')).heap[g]? = some (.cells (rmc kind (.slice a S.l.length c) S.room S.pl (.slice none 0 0) (.slice none 0 0) m') 196) ∧ (W.setCell ⟨g, 8, none⟩ (.int .i64 m')).ownsRow 0 5 1 (.slice a S.l.length c) S.l.length (S.l.map bv) ∧ Turned (fun k => k = g) W (W.setCell ⟨g, 8, none⟩ (.int .i64 m')) :=
  have hT : Turned (fun k => k = g) W (W.setCell ⟨g, 8, none⟩ (.int .i64 m')) := Turned.set (S := fun k => k = g) (Turned.refl _ _) (.inl rfl)
  ⟨Go.heap_setCell_same W g 8 _ _ (.int .i64 m') h1, owns_turned hr hT (fun k e => (hb k e).2), hT⟩
set_option maxRecDepth 100000 in
set_option maxHeartbeats 2000000 in
theorem rrmread_any (O : Nat → Prop) (g : Nat) (kind n : Int) (S : MS) (w : World) (h : RMemAt w O g kind S) (hk : kind = 1 ∨ kind = 2 ∨ kind = 3) :
    Calls Tryz.prog 234 #[.pointer (some ⟨g, 0, none⟩), .int .i64 n] w fun e w' => ∃ v, e = .returned (.tuple #[v, .int .i64 (S.read n).2.1]) ∧ Bys w' v (S.read n).1 ∧ RMemAt w' O g kind (S.read n).2.2 ∧ Turned O w w' := by
  obtain ⟨a, c, m, h1, hr, hb, og, z1, z2, z3⟩ := h
  have hk5 : (kind == 5) = false := by rcases hk with rfl | rfl | rfl <;> rfl
  have hk4 : (kind == 4) = false := by rcases hk with rfl | rfl | rfl <;> rfl
  have q0 : w.cell? ⟨g, 0, none⟩ = some (.int .i64 kind) := cell_of_row w g 0 _ _ _ h1
  have q8 : w.cell? ⟨g, 8, none⟩ = some (.int .i64 m) := cell_of_row w g 8 _ _ _ h1
  have s8 := frozen_of_row w g 8 _ _ h1
  have HT := hide (RMemAt.tick h1 hr hb (wrap64 (m + 1)))
  have r0 : ∀ c', (w.setCell ⟨g, 8, none⟩ (.int .i64 c')).cell? ⟨g, 0, none⟩ = some (.int .i64 kind) := fun c' => cell_of_row _ g 0 _ _ _ (RMemAt.tick h1 hr hb c').1
  have r1 : ∀ c', (w.setCell ⟨g, 8, none⟩ (.int .i64 c')).cell? ⟨g, 1, none⟩ = some (.slice a S.l.length c) := fun c' => cell_of_row _ g 1 _ _ _ (RMemAt.tick h1 hr hb c').1
  have r3 : ∀ c', (w.setCell ⟨g, 8, none⟩ (.int .i64 c')).cell? ⟨g, 3, none⟩ = some (.int .i64 S.pl) := fun c' => cell_of_row _ g 3 _ _ _ (RMemAt.tick h1 hr hb c').1
  have HB := hide hb
  clear h1 hr hb hk
  unfold MS.read
  by_cases hR : inR n = true
  · rw [if_pos hR]
    obtain ⟨N, rfl⟩ : ∃ N : Nat, n = N := ⟨n.toNat, by simp [inR] at hR; omega⟩
    have hN : N ≤ 1048576 := by simp [inR] at hR; omega
    clear hR
    simp only [Int.toNat_natCast]
    rcases Nat.eq_zero_or_pos N with rfl | hp
    · have hp0 : piece S.l S.pl 0 = [] := by simp [piece]
      rw [hp0]
      go_enter Tryz.func234, Tryz.ntmps234
      go_wp2
      go_ret2
      exact ⟨_, rfl, .inl ⟨rfl, rfl⟩, ⟨a, c, _, HT.out.1, HT.out.2.1, HB.out, og, z1, z2, z3⟩, HT.out.2.2.mono (fun k e => by rw [e]; exact og)⟩
    · have e1 : ¬ (N : Int) < 0 := by omega
      have e2 : ¬ 1048576 < (N : Int) := by omega
      have e3 : ((N : Int) == 0) = false := by simp; omega
      have HP := hide (fun W hW => piece_any 0 (.slice a S.l.length c) S.l S.pl N W hW (by omega) (by omega) hN)
      have hpl : S.l.length < S.pl ∨ S.pl + (piece S.l S.pl N).length ≤ S.l.length := by have := piece_len S.l S.pl N; omega
      have hpz : S.pl + (piece S.l S.pl N).length ≤ S.room := by have := piece_len S.l S.pl N; omega
      clear hpl
      generalize piece S.l S.pl N = Y at *
      go_enter Tryz.func234, Tryz.ntmps234
      go_wp2_with fail
      have k1 := r1 (wrap64 (m + 1))
      have k3 := r3 (wrap64 (m + 1))
      clear r0 r1 r3 q0 q8 s8
      generalize w.setCell ⟨g, 8, none⟩ (.int .i64 (wrap64 (m + 1))) = wa at *
      have hgl : g < wa.heap.size := World.block_lt_of_cell? wa _ k1
      have HC := hide (HP.out wa.drew (owns_below HT.out.2.1 (Below.refl _ _).drew))
      go_region_held3 (fun w' => w'.cell? ⟨g, 1, none⟩ = some (.slice a S.l.length c) ∧ w'.cell? ⟨g, 3, none⟩ = some (.int .i64 S.pl))
        (first | exact K2 | exact ⟨k1, k3⟩ | go_keep)
        (first
          | (go_at_call 166; refine HC.out.mono ?_; rintro _ w2 ⟨v, rfl, hown, hB2⟩; obtain ⟨va, vc, rfl⟩ := owns_slice hown; have K2 : w2.cell? ⟨g, 1, none⟩ = some (.slice a S.l.length c) ∧ w2.cell? ⟨g, 3, none⟩ = some (.int .i64 S.pl) := ⟨(hB2.cell (p := ⟨g, 1, none⟩) hgl).trans k1, (hB2.cell (p := ⟨g, 3, none⟩) hgl).trans k3⟩)
          | fail)
      have g2 := (hB2.block g hgl).trans HT.out.1
      have f3 := frozen_of_row w2 g 3 _ _ g2
      obtain ⟨K21, K23⟩ := K2
      have HG2 := hide g2
      have HO := hide hown
      have HB2 := hide hB2
      clear hown hB2 g2 k1 k3
      go_wp2
      go_ret2
      have hT5 : Turned (fun k => k = g) w2 (w2.setCell ⟨g, 3, none⟩ (.int .i64 ((S.pl : Int) + (Y.length : Int)))) := Turned.set (S := fun k => k = g) (Turned.refl _ _) (.inl rfl)
      have hTw : Turned (fun k => k = g) w w2 := HT.out.2.2.trans (Turned.of_below ((Below.refl _ wa).drew.trans HB2.out)) (fun _ _ e => e)
      have h5 := Go.heap_setCell_same w2 g 3 _ _ (.int .i64 ((S.pl : Int) + (Y.length : Int))) HG2.out
      refine ⟨_, rfl, (Bys.of_owns HO.out).turned hT5 (fun k e _ e' => ?_), ⟨a, c, wrap64 (m + 1), ?_, owns_turned (owns_below (owns_below HT.out.2.1 (Below.refl _ _).drew) HB2.out) hT5 (fun k e => (HB.out k e).2), HB.out, og, z1, ?_, z3⟩, (hTw.trans hT5 (fun _ _ e => e)).mono (fun k e => by rw [e]; exact og)⟩
      · have := (HO.out.lt k e).1
        have e2 : k = g := e'
        have : wa.heap.size ≤ k := this
        omega
      · rw [h5]; rfl
      · exact hpz
  · rw [if_neg hR]
    rcases (show n < 0 ∨ (¬ n < 0 ∧ 1048576 < n) by simp [inR] at hR; omega) with e1 | ⟨e1, e2⟩
    all_goals
      clear hR
      go_enter Tryz.func234, Tryz.ntmps234
      go_wp2
      go_ret2
      exact ⟨_, rfl, .inl ⟨rfl, rfl⟩, ⟨a, c, _, HT.out.1, HT.out.2.1, HB.out, og, z1, z2, z3⟩, HT.out.2.2.mono (fun k e => by rw [e]; exact og)⟩
set_option maxRecDepth 100000 in
set_option maxHeartbeats 2000000 in
theorem rrmseek_any (O : Nat → Prop) (g : Nat) (kind off wh : Int) (S : MS) (w : World) (h : RMemAt w O g kind S) (hk : kind = 1 ∨ kind = 2 ∨ kind = 3) :
    Calls Tryz.prog 101 #[.pointer (some ⟨g, 0, none⟩), .int .i64 off, .int .i64 wh] w fun e w' => e = .returned (.tuple #[.int .i64 (S.seek off wh).1, .int .i64 (S.seek off wh).2.1]) ∧ RMemAt w' O g kind (S.seek off wh).2.2 ∧ Turned O w w' := by
  obtain ⟨a, c, m, h1, hr, hb, og, z1, z2, z3⟩ := h
  have hk5 : (kind == 5) = false := by rcases hk with rfl | rfl | rfl <;> rfl
  have hk4 : (kind == 4) = false := by rcases hk with rfl | rfl | rfl <;> rfl
  have q0 : w.cell? ⟨g, 0, none⟩ = some (.int .i64 kind) := cell_of_row w g 0 _ _ _ h1
  have q1 : w.cell? ⟨g, 1, none⟩ = some (.slice a S.l.length c) := cell_of_row w g 1 _ _ _ h1
  have q2 : w.cell? ⟨g, 2, none⟩ = some (.int .i64 S.room) := cell_of_row w g 2 _ _ _ h1
  have q3 : w.cell? ⟨g, 3, none⟩ = some (.int .i64 S.pl) := cell_of_row w g 3 _ _ _ h1
  have s3 := frozen_of_row w g 3 _ _ h1
  have HH := hide (And.intro h1 (And.intro hr hb))
  clear h1 hr hb hk
  unfold MS.seek
  by_cases hwh : wh < 0 ∨ 2 < wh
  · rw [if_pos hwh]
    rcases (show wh < 0 ∨ (¬ wh < 0 ∧ 2 < wh) by omega) with e1 | ⟨e1, e2⟩
    all_goals
      clear hwh
      go_enter Tryz.func101, Tryz.ntmps101
      go_wp2
      go_ret2
      exact ⟨rfl, ⟨a, c, m, HH.out.1, HH.out.2.1, HH.out.2.2, og, z1, z2, z3⟩, Turned.refl _ _⟩
  rw [if_neg hwh]
  have hF : S.from wh ≤ 1048576 := by unfold MS.from; split; omega; split <;> omega
  have HM := hide (fun W => move_any (S.from wh) off S.room W (by omega) (by omega) (by omega) (by omega))
  have HFr : Hid (S.from wh = if wh = 1 then S.pl else if wh = 2 then S.l.length else 0) := hide rfl
  generalize S.from wh = F at *
  by_cases hbad : off < -(F : Int) ∨ (S.room : Int) - (F : Int) < off
  · rw [if_pos hbad]
    rw [if_neg (by omega)] at HM
    clear hbad
    rcases (show wh = 0 ∨ wh = 1 ∨ wh = 2 by omega) with rfl | rfl | rfl
    all_goals
      have hf := HFr.out
      simp at hf
      subst hf
      clear hwh HFr
      try simp only [Int.natCast_zero] at HM
      go_enter Tryz.func101, Tryz.ntmps101
      go_wp2_with fail
      refine (HM.out _).mono ?_
      rintro _ _ ⟨rfl, rfl⟩
      go_wp2
      go_ret2
      exact ⟨rfl, ⟨a, c, m, HH.out.1, HH.out.2.1, HH.out.2.2, og, z1, z2, z3⟩, Turned.refl _ _⟩
  rw [if_neg hbad]
  rw [if_pos (by omega)] at HM
  obtain ⟨T, hT⟩ : ∃ T : Nat, (F : Int) + off = T := ⟨((F : Int) + off).toNat, by omega⟩
  rw [hT] at HM
  simp only [hT, Int.toNat_natCast]
  have hTr : T ≤ S.room := by omega
  clear hbad hT
  have hG : w.heap[g]? = some (.cells (rmc kind (.slice a S.l.length c) S.room S.pl (.slice none 0 0) (.slice none 0 0) m) 196) := HH.out.1
  have h5 := Go.heap_setCell_same w g 3 _ _ (.int .i64 (T : Int)) hG
  have hT5 : Turned (fun k => k = g) w (w.setCell ⟨g, 3, none⟩ (.int .i64 (T : Int))) := Turned.set (S := fun k => k = g) (Turned.refl _ _) (.inl rfl)
  have HR : Hid (RMemAt (w.setCell ⟨g, 3, none⟩ (.int .i64 (T : Int))) O g kind ⟨S.l, S.room, T⟩ ∧ Turned O w (w.setCell ⟨g, 3, none⟩ (.int .i64 (T : Int)))) := hide ⟨⟨a, c, m, h5, owns_turned HH.out.2.1 hT5 (fun k e => (HH.out.2.2 k e).2), HH.out.2.2, og, z1, hTr, z3⟩, hT5.mono (fun k e => by rw [e]; exact og)⟩
  clear hG h5 hT5
  rcases (show wh = 0 ∨ wh = 1 ∨ wh = 2 by omega) with rfl | rfl | rfl
  all_goals
    have hf := HFr.out
    simp at hf
    subst hf
    clear hwh HFr
    try simp only [Int.natCast_zero] at HM
    go_enter Tryz.func101, Tryz.ntmps101
    go_wp2_with fail
    refine (HM.out _).mono ?_
    rintro _ _ ⟨rfl, rfl⟩
    go_wp2
    go_ret2
    exact ⟨rfl, HR.out.1, HR.out.2⟩
end Go.Proofs.YtdmkjbdlidadiaaGreat

/- The reference's memories: Write. -/
namespace Go.Proofs.YtdmkjbdlidadiaaGreat
open Go.RowKit

theorem rrm_lay (O : Nat → Prop) (g : Nat) (kind : Int) (S : MS) (x : List UInt8) (ba : Option Addr) (bc mm : Nat) (a : Option Addr) (c : Nat) (mc : Int) (w wa : World) (hG : wa.heap[g]? = some (.cells (rmc kind (.slice a S.l.length c) S.room S.pl (.slice none 0 0) (.slice none 0 0) mc) 196))
    (hr : wa.ownsRow 0 5 1 (.slice a S.l.length c) S.l.length (S.l.map bv)) (hb : ∀ k, (Value.slice a S.l.length c).ownBlock = some k → O k ∧ k ≠ g) (og : O g) (hT : Turned (fun k => k = g) w wa) (z1 : S.l.length ≤ S.room) (z3 : S.room ≤ 1048576)
    (hx : Bys w (.slice ba x.length bc) x) (hap : ∀ k, (Value.slice ba x.length bc).ownBlock = some k → ¬ O k) (h0 : 0 < x.length) (hm0 : 0 < mm) (hm1 : mm ≤ x.length) (hm2 : S.pl + mm ≤ S.room) (W : World) (hW : Below wa.heap.size wa W) :
    Calls Tryz.prog 221 #[.slice a S.l.length c, .int .i64 S.pl, .slice ba mm bc] W fun e w2 => ∃ ua uc, e = .returned (.slice ua (lay S.l S.pl (x.take mm)).length uc) ∧ (w2.cell? ⟨g, 1, none⟩ = some (.slice a S.l.length c) ∧ w2.cell? ⟨g, 3, none⟩ = some (.int .i64 S.pl) ∧ w2.frozen? ⟨g, 1, none⟩ = false ∧ (w2.setCell ⟨g, 1, none⟩ (.slice ua (lay S.l S.pl (x.take mm)).length uc)).cell? ⟨g, 3, none⟩ = some (.int .i64 S.pl) ∧ (w2.setCell ⟨g, 1, none⟩ (.slice ua (lay S.l S.pl (x.take mm)).length uc)).frozen? ⟨g, 3, none⟩ = false) ∧
      Hid (RMStep w O g kind ⟨lay S.l S.pl (x.take mm), S.room, S.pl + mm⟩ ((w2.setCell ⟨g, 1, none⟩ (.slice ua (lay S.l S.pl (x.take mm)).length uc)).setCell ⟨g, 3, none⟩ (.int .i64 ((S.pl : Int) + (mm : Int))))) := by
  have hgl : g < wa.heap.size := (Array.getElem?_eq_some_iff.1 hG).1
  have htl : (x.take mm).length = mm := by rw [List.length_take]; omega
  have hap2 : ∀ k, (Value.slice ba mm bc).ownBlock = some k → ¬ O k := fun k e => hap k (by cases ba with | none => cases e | some q => exact e)
  have hne : x.take mm ≠ [] := fun e => by rw [e] at htl; simp at htl; omega
  have hcut : Bys w (.slice ba mm bc) (x.take mm) := by
    obtain ⟨_, xb, xo, rfl, hxl, hcells⟩ := bys_block hx h0
    have := bys_cut hx 0 mm bc (by omega)
    simpa using this
  have hcutW : Bys W (.slice ba mm bc) (x.take mm) := (hcut.turned hT (fun k e _ e' => hap2 k e (by have e2 : k = g := e'; rw [e2]; exact og))).below hW
  refine (lay_any 0 _ (.slice ba mm bc) S.l (x.take mm) S.pl W (owns_below hr hW) hcutW (fun _ k e e' => hap2 k e (hb k e').1) (by omega) (by rw [htl]; omega) (Nat.zero_le _)).mono ?_
  rintro _ w2 ⟨u, rfl, hu, hub, hT2⟩
  rw [← lay_rlay _ _ _ hne] at hu
  have hll : (lay S.l S.pl (x.take mm)).length ≤ S.room := by rw [lay_len, htl]; split <;> omega
  generalize lay S.l S.pl (x.take mm) = Z at *
  obtain ⟨ua, uc, rfl⟩ := owns_slice hu
  have hg2 : w2.heap[g]? = some (.cells (rmc kind (.slice a S.l.length c) S.room S.pl (.slice none 0 0) (.slice none 0 0) mc) 196) := by
    rw [hT2.block g (Nat.lt_of_lt_of_le hgl hW.size) (fun e => (hb g e).2 rfl), hW.block g hgl]
    exact hG
  have h3 := Go.heap_setCell_same w2 g 1 _ _ (.slice ua Z.length uc) hg2
  have h4 := Go.heap_setCell_same _ g 3 _ _ (.int .i64 ((S.pl : Int) + (mm : Int))) h3
  have hTz : Turned (fun k => k = g) w2 ((w2.setCell ⟨g, 1, none⟩ (.slice ua Z.length uc)).setCell ⟨g, 3, none⟩ (.int .i64 ((S.pl : Int) + (mm : Int)))) := ((Turned.refl (fun k => k = g) w2).set (.inl rfl)).set (.inl rfl)
  have hwz : w.heap.size ≤ W.heap.size := Nat.le_trans hT.size hW.size
  have hug : ∀ k, (Value.slice ua Z.length uc).ownBlock = some k → (O k ∨ w.heap.size ≤ k) ∧ k ≠ g := fun k e => by
    rcases hub k e with e1 | e1
    · exact ⟨.inl (hb k e1).1, (hb k e1).2⟩
    · have := hW.size
      exact ⟨.inr (by omega), by omega⟩
  refine ⟨ua, uc, rfl, ⟨cell_of_row _ g 1 _ _ _ hg2, cell_of_row _ g 3 _ _ _ hg2, frozen_of_row _ g 1 _ _ hg2, cell_of_row _ g 3 _ _ _ h3, frozen_of_row _ g 3 _ _ h3⟩, hide ⟨fun k => O k ∨ w.heap.size ≤ k, ⟨ua, uc, mc, ?_, owns_turned hu hTz (fun k e => (hug k e).2), hug, .inl og, hll, hm2, z3⟩, fun _ e => e, ?_⟩⟩
  · rw [h4]; rfl
  · have hTW : Turned O w W := (hT.mono (fun k e => by rw [e]; exact og)).trans (Turned.of_below (S := O) hW) (fun _ _ e => e)
    have hTw2 : Turned O w w2 := hTW.trans hT2 (fun k _ e => (hb k e).1)
    exact hTw2.trans hTz (fun k _ e => by have e2 : k = g := e; rw [e2]; exact og)
set_option maxRecDepth 100000 in
set_option maxHeartbeats 2000000 in
theorem rrmwrite_any (O : Nat → Prop) (g : Nat) (kind : Int) (S : MS) (x : List UInt8) (ba : Option Addr) (bc : Nat) (w : World) (h : RMemAt w O g kind S) (hk : kind = 1 ∨ kind = 2) (hx : Bys w (.slice ba x.length bc) x) (hc : x.length ≤ bc) (hap : 0 < x.length → ∀ k, (Value.slice ba x.length bc).ownBlock = some k → ¬ O k) :
    Calls Tryz.prog 232 #[.pointer (some ⟨g, 0, none⟩), .slice ba x.length bc] w fun e w' => e = .returned (.tuple #[.int .i64 (S.write x).1, .int .i64 (S.write x).2.1]) ∧ RMStep w O g kind (S.write x).2.2 w' := by
  obtain ⟨a, c, m, h1, hr, hb, og, z1, z2, z3⟩ := h
  have hk5 : (kind == 5) = false := by rcases hk with rfl | rfl <;> rfl
  have hk4 : (kind == 4) = false := by rcases hk with rfl | rfl <;> rfl
  have hk3 : (kind == 3) = false := by rcases hk with rfl | rfl <;> rfl
  have q0 : w.cell? ⟨g, 0, none⟩ = some (.int .i64 kind) := cell_of_row w g 0 _ _ _ h1
  have q8 : w.cell? ⟨g, 8, none⟩ = some (.int .i64 m) := cell_of_row w g 8 _ _ _ h1
  have s8 := frozen_of_row w g 8 _ _ h1
  have HT := hide (RMemAt.tick h1 hr hb (wrap64 (m + 1)))
  have r0 : ∀ c', (w.setCell ⟨g, 8, none⟩ (.int .i64 c')).cell? ⟨g, 0, none⟩ = some (.int .i64 kind) := fun c' => cell_of_row _ g 0 _ _ _ (RMemAt.tick h1 hr hb c').1
  have r1 : ∀ c', (w.setCell ⟨g, 8, none⟩ (.int .i64 c')).cell? ⟨g, 1, none⟩ = some (.slice a S.l.length c) := fun c' => cell_of_row _ g 1 _ _ _ (RMemAt.tick h1 hr hb c').1
  have r2 : ∀ c', (w.setCell ⟨g, 8, none⟩ (.int .i64 c')).cell? ⟨g, 2, none⟩ = some (.int .i64 S.room) := fun c' => cell_of_row _ g 2 _ _ _ (RMemAt.tick h1 hr hb c').1
  have r3 : ∀ c', (w.setCell ⟨g, 8, none⟩ (.int .i64 c')).cell? ⟨g, 3, none⟩ = some (.int .i64 S.pl) := fun c' => cell_of_row _ g 3 _ _ _ (RMemAt.tick h1 hr hb c').1
  have HX := hide (And.intro hx hap)
  have HB := hide hb
  clear h1 hr hb hk hx hap
  have HE : Hid (RMStep w O g kind S (w.setCell ⟨g, 8, none⟩ (.int .i64 (wrap64 (m + 1))))) := hide ⟨O, ⟨a, c, _, HT.out.1, HT.out.2.1, HB.out, og, z1, z2, z3⟩, fun _ e => .inl e, HT.out.2.2.mono (fun k e => by rw [e]; exact og)⟩
  unfold MS.write
  by_cases h1 : 1048576 < x.length
  · rw [if_pos h1]
    have e1 : (1048576 : Int) < (x.length : Int) := by omega
    go_enter Tryz.func232, Tryz.ntmps232
    go_wp2
    go_ret2
    exact ⟨rfl, HE.out⟩
  rw [if_neg h1]
  have e1 : ¬ (1048576 : Int) < (x.length : Int) := by omega
  by_cases h2 : x = []
  · rw [if_pos h2]
    subst h2
    clear e1
    simp only [List.length_nil] at *
    go_enter Tryz.func232, Tryz.ntmps232
    go_wp2
    go_ret2
    exact ⟨rfl, HE.out⟩
  rw [if_neg h2]
  have h0 : 0 < x.length := List.length_pos_iff.2 h2
  have e2 : ((x.length : Int) == 0) = false := by simp; omega
  clear h1 h2
  by_cases h3 : S.pl = S.room
  · rw [if_pos h3]
    have e3 : (S.room : Int) ≤ (S.pl : Int) := by omega
    clear h3
    go_enter Tryz.func232, Tryz.ntmps232
    go_wp2_with fail
    have k2 := r2 (wrap64 (m + 1))
    have k3 := r3 (wrap64 (m + 1))
    clear r0 r1 r2 r3 q0 q8 s8
    generalize w.setCell ⟨g, 8, none⟩ (.int .i64 (wrap64 (m + 1))) = wa at *
    go_quiet (fail)
    go_wp2
    go_ret2
    obtain ⟨O', y1, y2, y3⟩ := HE.out
    have hbn := below_drewN (Below.refl wa.heap.size wa) nq
    exact ⟨rfl, O', y1.keep (fun j _ hl => hbn.block j hl), y2, y3.trans (Turned.of_below (S := O) hbn) (fun _ _ e => e)⟩
  rw [if_neg h3]
  have e3 : ¬ (S.room : Int) ≤ (S.pl : Int) := by omega
  obtain ⟨mm, hmm⟩ : ∃ mm, mm = min x.length (S.room - S.pl) := ⟨_, rfl⟩
  rw [← hmm]
  have hm0 : 0 < mm := by omega
  have hm1 : mm ≤ x.length := by omega
  have hm2 : S.pl + mm ≤ S.room := by omega
  have hmi : min (x.length : Int) ((S.room : Int) - (S.pl : Int)) = (mm : Int) := by omega
  have hmc : mm ≤ bc := by omega
  have HL := hide (rrm_lay O g kind S x ba bc mm a c (wrap64 (m + 1)) w _ HT.out.1 HT.out.2.1 HB.out og HT.out.2.2 z1 z3 HX.out.1 (HX.out.2 h0) h0 hm0 hm1 hm2)
  clear h3 HE hmm HX
  generalize lay S.l S.pl (x.take mm) = Z at *
  go_enter Tryz.func232, Tryz.ntmps232
  go_wp2_with fail
  have k1 := r1 (wrap64 (m + 1))
  have k2 := r2 (wrap64 (m + 1))
  have k3 := r3 (wrap64 (m + 1))
  clear r0 r1 r2 r3 q0 q8 s8 HT
  generalize w.setCell ⟨g, 8, none⟩ (.int .i64 (wrap64 (m + 1))) = wa at *
  go_quiet (fail)
  go_wp2_with fail
  go_quiet (fail)
  go_wp2_with fail
  go_region_law (first
      | (go_simp; go_at_call 221; refine (HL.out _ (below_drewN (Below.refl _ _) _)).mono ?_; rintro _ w2 ⟨ua, uc, rfl, ⟨j1, j3, f1, j3', f3⟩, HN⟩)
      | fail)
  all_goals
    go_wp2
    go_ret2
    exact ⟨rfl, HN.out⟩
end Go.Proofs.YtdmkjbdlidadiaaGreat

/- Answers for the program: the law's answers. -/
namespace Go.Proofs.YtdmkjbdlidadiaaGreat
open Go.RowKit

theorem AnsR.at {W W' : World} {a : Option Addr} {n c : Nat} {l : List (List UInt8 × Int)} (h : AnsR W (.slice a n c) l) (hB : Below W.heap.size W W') (j : Nat) (hj : j < l.length) :
    ∃ b off va vc, a = some ⟨b, off, none⟩ ∧ b < W.heap.size ∧ W'.cell? ⟨b, off + j * 2, none⟩ = some (.slice va l[j].1.length vc) ∧ W'.cell? ⟨b, off + j * 2 + 1, none⟩ = some (.int .i64 l[j].2) ∧ Bys W (.slice va l[j].1.length vc) l[j].1 ∧ l[j].1.length ≤ vc := by
  obtain ⟨a', c', he, hc⟩ := h
  cases he
  obtain ⟨b, off, rfl, hd⟩ := hc (by omega)
  obtain ⟨va, vc, a1, a2, a3, a4⟩ := hd j hj
  have hl := World.block_lt_of_cell? W _ a1
  exact ⟨b, off, va, vc, rfl, hl, (hB.cell (p := ⟨b, off + j * 2, none⟩) hl).trans a1, (hB.cell (p := ⟨b, off + j * 2 + 1, none⟩) hl).trans a2, a3, a4⟩
end Go.Proofs.YtdmkjbdlidadiaaGreat

/- The reference's custom stream: made. -/
namespace Go.Proofs.YtdmkjbdlidadiaaGreat
open Go.RowKit

def ARw (W : World) (base : Nat) (l : List (List UInt8 × Int)) (xs : List Value) : Prop := xs.length = l.length * 2 ∧ ∀ j (hj : j < l.length), ∃ va vc, xs[j * 2]? = some (.slice va l[j].1.length vc) ∧ xs[j * 2 + 1]? = some (.int .i64 l[j].2) ∧ W.ownsRow base 5 1 (.slice va l[j].1.length vc) l[j].1.length (l[j].1.map bv)
theorem ARw.keep {W W' : World} {base : Nat} {l : List (List UInt8 × Int)} {xs : List Value} (h : ARw W base l xs) (hk : ∀ k va vc n (d : List UInt8), W.ownsRow base 5 1 (.slice va n vc) n (d.map bv) → (Value.slice va n vc).ownBlock = some k → W'.heap[k]? = W.heap[k]?) : ARw W' base l xs := by
  refine ⟨h.1, fun j hj => ?_⟩
  obtain ⟨va, vc, e1, e2, e3⟩ := h.2 j hj
  exact ⟨va, vc, e1, e2, owns_keep e3 fun k hk' => hk k va vc _ _ e3 hk'⟩
theorem ARw.below {W W' : World} {base : Nat} {l : List (List UInt8 × Int)} {xs : List Value} (h : ARw W base l xs) (hB : Below W.heap.size W W') : ARw W' base l xs := h.keep fun k _ _ _ _ h1 h2 => hB.block k (h1.lt k h2).2
structure RBlk (W : World) (g : Nat) (rv wv : Value) : Prop where
  row : W.heap[g]? = some (.cells (rmc 4 (.slice none 0 0) 0 0 rv wv 0) 196)
theorem RBlk.c4 {W : World} {g : Nat} {rv wv : Value} (h : RBlk W g rv wv) : W.cell? ⟨g, 4, none⟩ = some rv := cell_of_row W g 4 _ _ _ h.row
theorem RBlk.c5 {W : World} {g : Nat} {rv wv : Value} (h : RBlk W g rv wv) : W.cell? ⟨g, 5, none⟩ = some wv := cell_of_row W g 5 _ _ _ h.row
theorem RBlk.keep {W W' : World} {g : Nat} {rv wv : Value} (h : RBlk W g rv wv) (hk : W'.heap[g]? = W.heap[g]?) : RBlk W' g rv wv := ⟨hk.trans h.row⟩
end Go.Proofs.YtdmkjbdlidadiaaGreat

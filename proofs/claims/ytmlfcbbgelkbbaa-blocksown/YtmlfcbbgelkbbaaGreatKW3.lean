/- What the proof stands on, part 3: the contracts of the program's calls that it reaches. -/
import Derived.Test.YtmlfcbbgelkbbaaGreatKW2
import Derived.Test.YtmlfcbbgelkbbaaGreatRows
import Derived.Shelf.SlIter.Nil
import Derived.Shelf.SortM.Plain
import Derived.Shelf.SortM.SortNone
import Derived.Ground.GgzProg
import Derived.Ground.SlgmProg
import Derived.Test.YtmlfcbbgelkbbaaGreatProg
import Derived.LaidEqlPtr
import Derived.Lib.Builder
import Derived.Deep.RegionHeld3
import Derived.Deep.LoopGhost
import Derived.Laws.CopyOwn
import Derived.Lib.SlBytesConst
/- Contracts of Go's library on the keys of a map, sorted, at this dump, laid by the kit's own command. -/
namespace Go.Proofs
open Go.RowKit Go.Maps Go.Sort Go.Shelf
def Tryz.keys124_ren : Go.Shelf.Ren := ⟨fun | 7 => 124 | 10 => 205 | n => n, fun | 23 => 96 | 26 => 9 | 3 => 102 | 28 => 207 | 0 => 0 | 27 => 206 | 33 => 115 | 4 => 4 | n => n, fun | n => n⟩
theorem Tryz.keys124 : Go.Proofs.SlLaysZ.n7 Tryz.prog Tryz.keys124_ren := {
  mixed := by kernel_rfl
  f7 := ⟨Tryz.f124.name, by decide, Tryz.func124.trans (congrArg some (by kernel_rfl))⟩
  f10 := ⟨Tryz.f205.name, by decide, Tryz.func205.trans (congrArg some (by kernel_rfl))⟩
  t0 := Tryz.underlying0
  a0 := Tryz.isAgg0
  z0 := Tryz.sizeOf0
  v0 := Tryz.zeroValue0
  t4 := Tryz.underlying4
  a4 := Tryz.isAgg4
  z4 := Tryz.sizeOf4
  v4 := Tryz.zeroValue4
  t23 := Tryz.underlying96
  a23 := Tryz.isAgg96
  z23 := Tryz.sizeOf96
  v23 := Tryz.zeroValue96
  t26 := Tryz.underlying9
  a26 := Tryz.isAgg9
  z26 := Tryz.sizeOf9
  v26 := Tryz.zeroValue9
  t27 := Tryz.underlying206
  a27 := Tryz.isAgg206
  z27 := Tryz.sizeOf206
  v27 := Tryz.zeroValue206
  t28 := Tryz.underlying207
  a28 := Tryz.isAgg207
  z28 := Tryz.sizeOf207
  v28 := Tryz.zeroValue207
  t33 := Tryz.underlying115
  a33 := Tryz.isAgg115
  z33 := Tryz.sizeOf115
  v33 := Tryz.zeroValue115 }
def Tryz.sorted123_ren : Go.Shelf.Ren := ⟨fun | 6 => 123 | 8 => 203 | 9 => 204 | 11 => 234 | 13 => 236 | 12 => 235 | 23 => 270 | 24 => 271 | 14 => 261 | 15 => 262 | 16 => 263 | 17 => 264 | 18 => 265 | 19 => 266 | 20 => 267 | 21 => 268 | 22 => 269 | 25 => 274 | 26 => 275 | 27 => 276 | 28 => 277 | 29 => 278 | 30 => 279 | 31 => 281 | n => n, fun | 26 => 9 | 28 => 207 | 24 => 114 | 0 => 0 | 3 => 3 | 37 => 356 | 48 => 372 | 50 => 374 | 4 => 4 | 40 => 365 | 39 => 364 | 45 => 276 | 5 => 5 | 9 => 9 | 51 => 377 | 55 => 333 | 57 => 382 | 58 => 118 | 33 => 115 | n => n, fun | n => n⟩
theorem Tryz.sorted123 : Go.Proofs.SlLaysZ.n6 Tryz.prog Tryz.sorted123_ren := {
  mixed := by kernel_rfl
  f6 := ⟨Tryz.f123.name, by decide, Tryz.func123.trans (congrArg some (by kernel_rfl))⟩
  f8 := ⟨Tryz.f203.name, by decide, Tryz.func203.trans (congrArg some (by kernel_rfl))⟩
  f11 := ⟨Tryz.f234.name, by decide, Tryz.func234.trans (congrArg some (by kernel_rfl))⟩
  t0 := Tryz.underlying0
  a0 := Tryz.isAgg0
  z0 := Tryz.sizeOf0
  v0 := Tryz.zeroValue0
  t24 := Tryz.underlying114
  a24 := Tryz.isAgg114
  z24 := Tryz.sizeOf114
  v24 := Tryz.zeroValue114
  t26 := Tryz.underlying9
  a26 := Tryz.isAgg9
  z26 := Tryz.sizeOf9
  v26 := Tryz.zeroValue9
  t28 := Tryz.underlying207
  a28 := Tryz.isAgg207
  z28 := Tryz.sizeOf207
  v28 := Tryz.zeroValue207
  i26 := by kernel_rfl }
def Tryz.sort204_ren : Go.Shelf.Ren := ⟨fun | 6 => 204 | 8 => 236 | 9 => 235 | 19 => 270 | 20 => 271 | 21 => 261 | 22 => 262 | 23 => 263 | 24 => 264 | 25 => 265 | 26 => 266 | 27 => 267 | 28 => 268 | 29 => 269 | 36 => 274 | 31 => 275 | 32 => 276 | 37 => 277 | 38 => 278 | 39 => 279 | 41 => 281 | n => n, fun | 27 => 114 | 29 => 9 | 3 => 3 | 32 => 356 | 26 => 114 | 0 => 0 | 44 => 372 | 46 => 374 | 4 => 4 | 36 => 365 | 35 => 364 | 41 => 276 | 5 => 5 | 9 => 9 | 53 => 377 | 57 => 333 | 63 => 382 | 64 => 118 | n => n, fun | n => n⟩
theorem Tryz.sort204 : Go.Proofs.SlLaysM.n6 Tryz.prog Tryz.sort204_ren := {
  mixed := by kernel_rfl
  f6 := ⟨Tryz.f204.name, by decide, Tryz.func204.trans (congrArg some (by kernel_rfl))⟩
  f8 := Tryz.func236.trans (congrArg some (by kernel_rfl))
  f9 := ⟨Tryz.f235.name, by decide, Tryz.func235.trans (congrArg some (by kernel_rfl))⟩
  f19 := Tryz.func270.trans (congrArg some (by kernel_rfl))
  f20 := Tryz.func271.trans (congrArg some (by kernel_rfl))
  f21 := ⟨Tryz.f261.name, by decide, Tryz.func261.trans (congrArg some (by kernel_rfl))⟩
  f22 := ⟨Tryz.f262.name, by decide, Tryz.func262.trans (congrArg some (by kernel_rfl))⟩
  f23 := ⟨Tryz.f263.name, by decide, Tryz.func263.trans (congrArg some (by kernel_rfl))⟩
  f24 := ⟨Tryz.f264.name, by decide, Tryz.func264.trans (congrArg some (by kernel_rfl))⟩
  f25 := ⟨Tryz.f265.name, by decide, Tryz.func265.trans (congrArg some (by kernel_rfl))⟩
  f26 := ⟨Tryz.f266.name, by decide, Tryz.func266.trans (congrArg some (by kernel_rfl))⟩
  f27 := ⟨Tryz.f267.name, by decide, Tryz.func267.trans (congrArg some (by kernel_rfl))⟩
  f28 := ⟨Tryz.f268.name, by decide, Tryz.func268.trans (congrArg some (by kernel_rfl))⟩
  f29 := ⟨Tryz.f269.name, by decide, Tryz.func269.trans (congrArg some (by kernel_rfl))⟩
  f31 := Tryz.func275.trans (congrArg some (by kernel_rfl))
  f32 := Tryz.func276.trans (congrArg some (by kernel_rfl))
  f36 := ⟨Tryz.f274.name, by decide, Tryz.func274.trans (congrArg some (by kernel_rfl))⟩
  f37 := ⟨Tryz.f277.name, by decide, Tryz.func277.trans (congrArg some (by kernel_rfl))⟩
  f38 := ⟨Tryz.f278.name, by decide, Tryz.func278.trans (congrArg some (by kernel_rfl))⟩
  f39 := ⟨Tryz.f279.name, by decide, Tryz.func279.trans (congrArg some (by kernel_rfl))⟩
  f41 := ⟨Tryz.f281.name, by decide, Tryz.func281.trans (congrArg some (by kernel_rfl))⟩
  t0 := Tryz.underlying0
  a0 := Tryz.isAgg0
  z0 := Tryz.sizeOf0
  v0 := Tryz.zeroValue0
  t3 := Tryz.underlying3
  a3 := Tryz.isAgg3
  z3 := Tryz.sizeOf3
  v3 := Tryz.zeroValue3
  t4 := Tryz.underlying4
  a4 := Tryz.isAgg4
  z4 := Tryz.sizeOf4
  v4 := Tryz.zeroValue4
  t5 := Tryz.underlying5
  a5 := Tryz.isAgg5
  z5 := Tryz.sizeOf5
  v5 := Tryz.zeroValue5
  t9 := Tryz.underlying9
  a9 := Tryz.isAgg9
  z9 := Tryz.sizeOf9
  v9 := Tryz.zeroValue9
  t26 := Tryz.underlying114
  a26 := Tryz.isAgg114
  z26 := Tryz.sizeOf114
  v26 := Tryz.zeroValue114
  t27 := Tryz.underlying114
  a27 := Tryz.isAgg114
  z27 := Tryz.sizeOf114
  v27 := Tryz.zeroValue114
  t29 := Tryz.underlying9
  a29 := Tryz.isAgg9
  z29 := Tryz.sizeOf9
  v29 := Tryz.zeroValue9
  t32 := Tryz.underlying356
  a32 := Tryz.isAgg356
  z32 := Tryz.sizeOf356
  v32 := Tryz.zeroValue356
  t35 := Tryz.underlying364
  a35 := Tryz.isAgg364
  z35 := Tryz.sizeOf364
  v35 := Tryz.zeroValue364
  t36 := Tryz.underlying365
  a36 := Tryz.isAgg365
  z36 := Tryz.sizeOf365
  v36 := Tryz.zeroValue365
  t41 := Tryz.underlying276
  a41 := Tryz.isAgg276
  z41 := Tryz.sizeOf276
  v41 := Tryz.zeroValue276
  t44 := Tryz.underlying372
  a44 := Tryz.isAgg372
  z44 := Tryz.sizeOf372
  v44 := Tryz.zeroValue372
  t46 := Tryz.underlying374
  a46 := Tryz.isAgg374
  z46 := Tryz.sizeOf374
  v46 := Tryz.zeroValue374
  t53 := Tryz.underlying377
  a53 := Tryz.isAgg377
  z53 := Tryz.sizeOf377
  v53 := Tryz.zeroValue377
  t57 := Tryz.underlying333
  a57 := Tryz.isAgg333
  z57 := Tryz.sizeOf333
  v57 := Tryz.zeroValue333
  t63 := Tryz.underlying382
  a63 := Tryz.isAgg382
  z63 := Tryz.sizeOf382
  v63 := Tryz.zeroValue382
  t64 := Tryz.underlying118
  a64 := Tryz.isAgg118
  z64 := Tryz.sizeOf118
  v64 := Tryz.zeroValue118 }

theorem Tryz.sorts123 (m : Nat) : AnyZ.SortsIn Tryz.prog Tryz.sorted123_ren Fence.wide m :=
  ⟨fun blk off cap ss W hH hblk hsz => callsIn_wide.2 (AnyM.slices_Sort_string Tryz.sort204 blk off cap ss W hH hblk hsz),
   fun p cap W => callsIn_wide.2 (AnyM.slices_Sort_string_none Tryz.sort204 p cap W)⟩
theorem Tryz.maps_Keys_124 (mb : Option Nat) (W : World) : CallsIn Fence.wide 5 Tryz.prog 124 #[.map mb] W fun e w' => e = .returned (.func (.func 205) #[] #[.pointer (some ⟨W.heap.size, 0, none⟩)]) ∧ w' = W.alloc (.cells #[.map mb] 96) :=
  AnyZ.keys_in Tryz.keys124 Fence.wide 5 trivial rfl mb W
set_option maxHeartbeats 1000000 in
theorem Tryz.slices_Sorted_keys_123_124 {H : Type} (b nn : Nat) (D0 : DataW H) (R : Value → Option (DataW H × List MemPlace)) (w : World) (hown : w.ownsMap Tryz.prog 9 R b nn D0) (hmax : Maps.size D0 ≤ maxLen) (hbytes : Maps.size D0 * 16 ≤ 140737488355328) :
    CallsIn Fence.wide 5 Tryz.prog 123 #[.func (.func 205) #[] #[.pointer (some ⟨w.heap.size, 0, none⟩)]] (w.alloc (.cells #[.map (some b)] 96)) fun e w' => ∃ (v : Value) (ss : List (List UInt8)), e = .returned v ∧ ss.Perm (strKeys D0) ∧
      w'.ownsRow (w.alloc (.cells #[.map (some b)] 96)).heap.size 9 1 v ss.length ((ss.mergeSort (fun x y => decide (x ≤ y))).map encStr) ∧ (v = .slice none 0 0 ↔ ss = []) ∧ Below (w.alloc (.cells #[.map (some b)] 96)).heap.size (w.alloc (.cells #[.map (some b)] 96)) w' := by
  have hbl := hown.lt
  have hseq : SeqGives Fence.wide 2 Tryz.prog 205 #[.pointer (some ⟨w.heap.size, 0, none⟩)] encStr (fun ss => ss.Perm (strKeys D0)) (Maps.size D0) (w.alloc (.cells #[.map (some b)] 96)) :=
    AnyZ.keys_gives (ρ := Tryz.keys124_ren) { Tryz.keys124 with } Fence.wide _ trivial rfl (by omega) w.heap.size b nn D0 _ (by simp) (by simp) (by
      obtain ⟨es, clock, hb, Ft, hs, hD⟩ := hown
      exact ⟨es, clock, (Below.heap_alloc _ _ b hbl).trans hb, Ft, hs, hD⟩)
  exact AnyZ.sorted_in Tryz.sorted123 Fence.wide 5 trivial trivial trivial trivial rfl (by omega) (Tryz.sorts123 _) (enters_of Tryz.func204 (by kernel_rfl) rfl) 205 #[.pointer (some ⟨w.heap.size, 0, none⟩)] trivial (enters_of Tryz.func205 (by kernel_rfl) rfl) _ _ hmax hbytes _ hseq
set_option maxHeartbeats 1000000 in
theorem Tryz.slices_Sorted_keys_nil_123_124 (w : World) :
    CallsIn Fence.wide 5 Tryz.prog 123 #[.func (.func 205) #[] #[.pointer (some ⟨w.heap.size, 0, none⟩)]] (w.alloc (.cells #[.map none] 96)) fun e w' => ∃ (v : Value) (ss : List (List UInt8)), e = .returned v ∧ ss = [] ∧
      w'.ownsRow (w.alloc (.cells #[.map none] 96)).heap.size 9 1 v ss.length ((ss.mergeSort (fun x y => decide (x ≤ y))).map encStr) ∧ (v = .slice none 0 0 ↔ ss = []) ∧ Below (w.alloc (.cells #[.map none] 96)).heap.size (w.alloc (.cells #[.map none] 96)) w' := by
  have hseq : SeqGives Fence.wide 2 Tryz.prog 205 #[.pointer (some ⟨w.heap.size, 0, none⟩)] encStr (fun ss : List (List UInt8) => ss = []) 0 (w.alloc (.cells #[.map none] 96)) :=
    AnyZ.keys_gives_nil (ρ := Tryz.keys124_ren) { Tryz.keys124 with } Fence.wide _ trivial rfl w.heap.size _ (by simp) (by simp)
  exact AnyZ.sorted_in Tryz.sorted123 Fence.wide 5 trivial trivial trivial trivial rfl (by omega) (Tryz.sorts123 _) (enters_of Tryz.func204 (by kernel_rfl) rfl) 205 #[.pointer (some ⟨w.heap.size, 0, none⟩)] trivial (enters_of Tryz.func205 (by kernel_rfl) rfl) _ 0 (Nat.zero_le _) (by omega) _ hseq
end Go.Proofs

/- Files: all files by name. -/
namespace Go.Proofs.YtmlfcbbgelkbbaaGreat
open Go.RowKit Go.Maps

end Go.Proofs.YtmlfcbbgelkbbaaGreat

/- The reference's kernel: Files. -/
namespace Go.Proofs.YtmlfcbbgelkbbaaGreat
open Go.RowKit

end Go.Proofs.YtmlfcbbgelkbbaaGreat

/- The reference's kernel: Screens. -/
namespace Go.Proofs.YtmlfcbbgelkbbaaGreat
open Go.RowKit

end Go.Proofs.YtmlfcbbgelkbbaaGreat

/- The reference's kernel: Drop. -/
namespace Go.Proofs.YtmlfcbbgelkbbaaGreat
open Go.RowKit

end Go.Proofs.YtmlfcbbgelkbbaaGreat

/- The page's kernel of a setup. -/
namespace Go.Proofs.YtmlfcbbgelkbbaaGreat
open Go.RowKit

end Go.Proofs.YtmlfcbbgelkbbaaGreat

/- The reference's kernel within a set of blocks: what each call leaves of it, and of all else. -/
namespace Go.Proofs.YtmlfcbbgelkbbaaGreat
open Go.RowKit

end Go.Proofs.YtmlfcbbgelkbbaaGreat

/- The law's examples. -/
namespace Go.Proofs.YtmlfcbbgelkbbaaGreat
open Go.RowKit Go.Maps

end Go.Proofs.YtmlfcbbgelkbbaaGreat

/- KernPlace: the kernel's states, as values. -/
namespace Go.Proofs.YtmlfcbbgelkbbaaGreat
open Go.RowKit Go.Maps

end Go.Proofs.YtmlfcbbgelkbbaaGreat

/- KernSays: what a read, a write and the questions ahead of them say, as values. No program. -/
namespace Go.Proofs.YtmlfcbbgelkbbaaGreat
open Go.RowKit

end Go.Proofs.YtmlfcbbgelkbbaaGreat

/- KernPieces: the kernel's states, as values. -/
namespace Go.Proofs.YtmlfcbbgelkbbaaGreat
open Go.RowKit Go.Maps

end Go.Proofs.YtmlfcbbgelkbbaaGreat

/- Handles: their calls, those of no kernel, and two kernels side by side. -/
namespace Go.Proofs.YtmlfcbbgelkbbaaGreat
open Go.RowKit Go.Maps

end Go.Proofs.YtmlfcbbgelkbbaaGreat

/- The program's kernel and the reference's, side by side. -/
namespace Go.Proofs.YtmlfcbbgelkbbaaGreat
open Go.RowKit

end Go.Proofs.YtmlfcbbgelkbbaaGreat

/- KernPlays: a call by both. -/
namespace Go.Proofs.YtmlfcbbgelkbbaaGreat
open Go.RowKit Go.Maps

end Go.Proofs.YtmlfcbbgelkbbaaGreat

/- KernPlays: Read and Write by both. -/
namespace Go.Proofs.YtmlfcbbgelkbbaaGreat
open Go.RowKit Go.Maps

end Go.Proofs.YtmlfcbbgelkbbaaGreat

/- The reference's memories: Read, Write, Seek. -/
namespace Go.Proofs.YtmlfcbbgelkbbaaGreat
open Go.RowKit

set_option maxRecDepth 100000 in
set_option maxHeartbeats 2000000 in
theorem rrmseek_any (O : Nat → Prop) (g : Nat) (kind off wh : Int) (S : MS) (w : World) (h : RMemAt w O g kind S) (hk : kind = 1 ∨ kind = 2 ∨ kind = 3) :
    Calls Tryz.prog 93 #[.pointer (some ⟨g, 0, none⟩), .int .i64 off, .int .i64 wh] w fun e w' => e = .returned (.tuple #[.int .i64 (S.seek off wh).1, .int .i64 (S.seek off wh).2.1]) ∧ RMemAt w' O g kind (S.seek off wh).2.2 ∧ Turned O w w' := by
  obtain ⟨a, c, m, h1, hr, hb, og, z1, z2, z3⟩ := h
  have hk5 : (kind == 5) = false := by rcases hk with rfl | rfl | rfl <;> rfl
  have hk4 : (kind == 4) = false := by rcases hk with rfl | rfl | rfl <;> rfl
  have q0 : w.cell? ⟨g, 0, none⟩ = some (.int .i64 kind) := cell_of_row w g 0 _ _ _ h1
  have q1 : w.cell? ⟨g, 1, none⟩ = some (.slice a S.l.length c) := cell_of_row w g 1 _ _ _ h1
  have q2 : w.cell? ⟨g, 2, none⟩ = some (.int .i64 S.room) := cell_of_row w g 2 _ _ _ h1
  have q3 : w.cell? ⟨g, 3, none⟩ = some (.int .i64 S.pl) := cell_of_row w g 3 _ _ _ h1
  have s3 := frozen_of_row w g 3 _ _ h1
  have HH := hide (And.intro h1 (And.intro hr hb))
  clear h1 hr hb hk
  unfold MS.seek
  by_cases hwh : wh < 0 ∨ 2 < wh
  · rw [if_pos hwh]
    rcases (show wh < 0 ∨ (¬ wh < 0 ∧ 2 < wh) by omega) with e1 | ⟨e1, e2⟩
    all_goals
      clear hwh
      go_enter Tryz.func93, Tryz.ntmps93
      go_wp2
      go_ret2
      exact ⟨rfl, ⟨a, c, m, HH.out.1, HH.out.2.1, HH.out.2.2, og, z1, z2, z3⟩, Turned.refl _ _⟩
  rw [if_neg hwh]
  have hF : S.from wh ≤ 1048576 := by unfold MS.from; split; omega; split <;> omega
  have HM := hide (fun W => move_any (S.from wh) off S.room W (by omega) (by omega) (by omega) (by omega))
  have HFr : Hid (S.from wh = if wh = 1 then S.pl else if wh = 2 then S.l.length else 0) := hide rfl
  generalize S.from wh = F at *
  by_cases hbad : off < -(F : Int) ∨ (S.room : Int) - (F : Int) < off
  · rw [if_pos hbad]
    rw [if_neg (by omega)] at HM
    clear hbad
    rcases (show wh = 0 ∨ wh = 1 ∨ wh = 2 by omega) with rfl | rfl | rfl
    all_goals
      have hf := HFr.out
      simp at hf
      subst hf
      clear hwh HFr
      try simp only [Int.natCast_zero] at HM
      go_enter Tryz.func93, Tryz.ntmps93
      go_wp2_with fail
      refine (HM.out _).mono ?_
      rintro _ _ ⟨rfl, rfl⟩
      go_wp2
      go_ret2
      exact ⟨rfl, ⟨a, c, m, HH.out.1, HH.out.2.1, HH.out.2.2, og, z1, z2, z3⟩, Turned.refl _ _⟩
  rw [if_neg hbad]
  rw [if_pos (by omega)] at HM
  obtain ⟨T, hT⟩ : ∃ T : Nat, (F : Int) + off = T := ⟨((F : Int) + off).toNat, by omega⟩
  rw [hT] at HM
  simp only [hT, Int.toNat_natCast]
  have hTr : T ≤ S.room := by omega
  clear hbad hT
  have hG : w.heap[g]? = some (.cells (rmc kind (.slice a S.l.length c) S.room S.pl (.slice none 0 0) (.slice none 0 0) m) 192) := HH.out.1
  have h5 := Go.heap_setCell_same w g 3 _ _ (.int .i64 (T : Int)) hG
  have hT5 : Turned (fun k => k = g) w (w.setCell ⟨g, 3, none⟩ (.int .i64 (T : Int))) := Turned.set (S := fun k => k = g) (Turned.refl _ _) (.inl rfl)
  have HR : Hid (RMemAt (w.setCell ⟨g, 3, none⟩ (.int .i64 (T : Int))) O g kind ⟨S.l, S.room, T⟩ ∧ Turned O w (w.setCell ⟨g, 3, none⟩ (.int .i64 (T : Int)))) := hide ⟨⟨a, c, m, h5, owns_turned HH.out.2.1 hT5 (fun k e => (HH.out.2.2 k e).2), HH.out.2.2, og, z1, hTr, z3⟩, hT5.mono (fun k e => by rw [e]; exact og)⟩
  clear hG h5 hT5
  rcases (show wh = 0 ∨ wh = 1 ∨ wh = 2 by omega) with rfl | rfl | rfl
  all_goals
    have hf := HFr.out
    simp at hf
    subst hf
    clear hwh HFr
    try simp only [Int.natCast_zero] at HM
    go_enter Tryz.func93, Tryz.ntmps93
    go_wp2_with fail
    refine (HM.out _).mono ?_
    rintro _ _ ⟨rfl, rfl⟩
    go_wp2
    go_ret2
    exact ⟨rfl, HR.out.1, HR.out.2⟩
end Go.Proofs.YtmlfcbbgelkbbaaGreat

/- Slices of anything that came in as an argument: what a walk is told of them, and their sizes. -/
namespace Go.Proofs.YtmlfcbbgelkbbaaGreat
open Go.ChangeShapes Go.WideShapes Go.ChangeAt Go.RowKit Go.Deep

def RowsR {α : Type} (W : World) (k : Nat) (Rd : List Value → α → Prop) (v : Value) (l : List α) : Prop :=
  (v = .slice none 0 0 ∧ l = []) ∨ ∃ q cap, v = .slice (some q) l.length cap ∧ l.length ≤ cap ∧ (0 < l.length → ∃ b off, q = ⟨b, off, none⟩ ∧ ∀ j (hj : j < l.length), ∃ cs, Rd cs l[j] ∧ cs.length = k ∧ ∀ i v, cs[i]? = some v → W.cell? ⟨b, off + j * k + i, none⟩ = some v)
theorem RowsR.form {α : Type} {W : World} {k : Nat} {Rd : List Value → α → Prop} {v : Value} {l : List α} (h : RowsR W k Rd v l) : ∃ a c, v = .slice a l.length c ∧ l.length ≤ c := by
  rcases h with ⟨rfl, rfl⟩ | ⟨q, cap, rfl, h1, _⟩
  · exact ⟨_, _, rfl, Nat.le_refl _⟩
  · exact ⟨_, _, rfl, h1⟩
def MSmall {H : Type} (P : Program) (t : TypeId) (d : DataW H) : Prop := ∀ n ∈ d.weights P t, n ≤ reachBytes
theorem msmall_arg {H : Type} {P : Program} {ts : List TypeId} {ds : List (DataW H)} (h : (DataW.weightsEach P ts ds).all (· ≤ reachBytes) = true) {j : Nat} {t : TypeId} {d : DataW H} (ht : ts[j]? = some t) (hd : ds[j]? = some d) : MSmall P t d :=
  fun n hn => of_decide_eq_true (List.all_eq_true.1 h _ (DataW.weights_mem_each ht hd n hn))
theorem MSmall.slice {H : Type} {P : Program} {t e : TypeId} {es sp : List (DataW H)} (h : MSmall P t (.slice es sp)) (hu : P.underlying t = some (.slice e)) : (es.length + sp.length) * P.bytesOf e ≤ reachBytes ∧ ∀ d ∈ es, MSmall P e d :=
  ⟨h _ (by simp [DataW.weights, hu]), fun d hd n hn => h n (by
    simp only [DataW.weights, hu, List.mem_cons, List.mem_append]
    exact Or.inr (Or.inl (Kp_weightsAll_mem hd n hn)))⟩
theorem MSmall.fields {H : Type} {P : Program} {t : TypeId} {fs : Array Field} {ds : List (DataW H)} (h : MSmall P t (.agg ds)) (hu : P.underlying t = some (.struct fs)) (j : Nat) (f : Field) (d : DataW H) (hf : fs[j]? = some f) (hd : ds[j]? = some d) : MSmall P f.type d := fun n hn => h n (by
    simp only [DataW.weights, hu]
    exact DataW.weights_mem_each (by rw [List.getElem?_map, Array.getElem?_toList, hf]; rfl) hd n hn)
theorem mbytes_small {H : Type} {P : Program} {t e : TypeId} {d : DataW H} {x : List UInt8} (h : MSmall P t d) (hu : P.underlying t = some (.slice e)) (be : P.bytesOf e = 1) (hO : Kp_DataOf d x) : x.length ≤ 140737488351232 := by
  rcases hO with ⟨_, rfl⟩ | ⟨es, sp, rfl, hl⟩
  · simp
  · have := (h.slice hu).1
    rw [be] at this
    simp only [reachBytes] at this
    omega
def ByC (W : World) (v : Value) (x : List UInt8) : Prop := ∃ va vc, v = .slice va x.length vc ∧ Bys W (.slice va x.length vc) x ∧ x.length ≤ vc
theorem byc_arg {H : Type} {enc : TypeId × Value → H} {P : Program} {W : World} {base fuel e u : Nat} {v : Value} {d : DataW H} {p : List MemPlace} (he : P.underlying e = some (.slice u)) (hu : P.underlying u = some (.int .u8)) (cu : P.cellsOf u = 1)
    (h : DataW.trod enc P W base (fun _ => true) true fuel e [v] = some (d, p)) : ∃ x, ByC W v x ∧ Kp_DataOf d x := by
  obtain ⟨va, vl, vc, rfl⟩ : ∃ va vl vc, v = .slice va vl vc := by
    rcases DataW.trod_slice he h with ⟨h0, _⟩ | ⟨x, len, cap, _, _, _, _, h0, _⟩
    · exact ⟨_, _, _, by simpa using h0⟩
    · exact ⟨_, _, _, by simpa using h0⟩
  obtain ⟨s, hs, hc, hO⟩ := bytes_arg2 he hu cu (by simpa [Value.cells] using h)
  obtain rfl := Kp_bys_len hs
  exact ⟨s, ⟨va, vc, rfl, hs, hc⟩, hO⟩
end Go.Proofs.YtmlfcbbgelkbbaaGreat

/- Lines, steps, answers and numbers that came in as an argument: what a walk is told of them, and their sizes. -/
namespace Go.Proofs.YtmlfcbbgelkbbaaGreat
open Go.ChangeShapes Go.WideShapes Go.ChangeAt Go.RowKit Go.Deep

def MLns (W : World) (v : Value) (ls : List (List UInt8)) : Prop := RowsR W 1 (fun cs x => ∃ u, cs = [u] ∧ ByC W u x) v ls
end Go.Proofs.YtmlfcbbgelkbbaaGreat

/- Answers for the program: the law's answers. -/
namespace Go.Proofs.YtmlfcbbgelkbbaaGreat
open Go.RowKit

end Go.Proofs.YtmlfcbbgelkbbaaGreat

/- A plant that came in as an argument: what a walk is told of it, and its size. -/
namespace Go.Proofs.YtmlfcbbgelkbbaaGreat
open Go.ChangeShapes Go.WideShapes Go.ChangeAt Go.RowKit Go.Deep

def ACells (W : World) (cs : List Value) (x : List UInt8 × Int) : Prop := ∃ va vc, cs = [.slice va x.1.length vc, .int .i64 x.2] ∧ Bys W (.slice va x.1.length vc) x.1 ∧ x.1.length ≤ vc
theorem rows_ans {W : World} {v : Value} {l : List (List UInt8 × Int)} (h : RowsR W 2 (ACells W) v l) : AnsR W v l := by
  rcases h with ⟨rfl, rfl⟩ | ⟨q, cap, rfl, h1, h2⟩
  · exact ⟨_, _, rfl, fun h => absurd h (by simp)⟩
  · refine ⟨some q, cap, rfl, fun h0 => ?_⟩
    obtain ⟨b, off, rfl, hd⟩ := h2 h0
    refine ⟨b, off, rfl, fun j hj => ?_⟩
    obtain ⟨cs, ⟨va, vc, rfl, r1, r2⟩, _, h3⟩ := hd j hj
    exact ⟨va, vc, h3 0 _ rfl, h3 1 _ rfl, r1, r2⟩
theorem rows_ints {W : World} {v : Value} {l : List Int} (h : RowsR W 1 (fun cs x => cs = [.int .i64 x]) v l) : IntsR W v l := by
  rcases h with ⟨rfl, rfl⟩ | ⟨q, cap, rfl, h1, h2⟩
  · exact .inl ⟨rfl, rfl⟩
  · refine .inr ⟨q, cap, rfl, fun h0 => ?_⟩
    obtain ⟨b, off, rfl, hd⟩ := h2 h0
    refine ⟨b, off, rfl, fun j hj => ?_⟩
    obtain ⟨cs, rfl, _, h3⟩ := hd j hj
    have := h3 0 _ rfl
    rwa [Nat.mul_one, Nat.add_zero] at this
def FCells (cs : List Value) (x : Int × Int) : Prop := cs = [.int .i64 x.1, .int .i64 x.2]
structure Plt where
  kind : Int
  size : Int
  data : List UInt8
  reads : List (List UInt8 × Int)
  writes : List Int
  fs : List (Int × Int)
  lines : List (List UInt8)
  place : Int
  app : Bool
structure PltIn (W : World) (x : Plt) (dv rv wv fv lv : Value) : Prop where
  d : ByC W dv x.data
  r : AnsR W rv x.reads
  w : IntsR W wv x.writes
  f : RowsR W 2 FCells fv x.fs
  l : MLns W lv x.lines
end Go.Proofs.YtmlfcbbgelkbbaaGreat

/- Plant.Panics. -/
namespace Go.Proofs.YtmlfcbbgelkbbaaGreat
open Go.RowKit

def Plt.k6 (x : Plt) : Int := (wrap64 (x.kind.tmod 6 + 6)).tmod 6
end Go.Proofs.YtmlfcbbgelkbbaaGreat

/- A custom stream: an answer is used up. -/
namespace Go.Proofs.YtmlfcbbgelkbbaaGreat
open Go.RowKit

end Go.Proofs.YtmlfcbbgelkbbaaGreat

/- A custom stream: useAnswer, useNumber, as deferred calls. -/
namespace Go.Proofs.YtmlfcbbgelkbbaaGreat
open Go.RowKit

end Go.Proofs.YtmlfcbbgelkbbaaGreat

/- A custom stream: howMany. -/
namespace Go.Proofs.YtmlfcbbgelkbbaaGreat
open Go.RowKit

end Go.Proofs.YtmlfcbbgelkbbaaGreat

/- A custom stream: Write, Taken. -/
namespace Go.Proofs.YtmlfcbbgelkbbaaGreat
open Go.RowKit

end Go.Proofs.YtmlfcbbgelkbbaaGreat

/- A custom stream: Read. -/
namespace Go.Proofs.YtmlfcbbgelkbbaaGreat
open Go.RowKit

end Go.Proofs.YtmlfcbbgelkbbaaGreat

/- Two objects in memory that share nothing. -/
namespace Go.Proofs.YtmlfcbbgelkbbaaGreat
open Go.RowKit

structure OAt (A : World → (Nat → Prop) → Prop) : Prop where
  keep : ∀ {w w' : World} {O : Nat → Prop}, A w O → (∀ j, O j → j < w.heap.size → w'.heap[j]? = w.heap[j]?) → w.heap.size ≤ w'.heap.size → A w' O
  trim : ∀ {w : World} {O : Nat → Prop}, A w O → A w (fun k => O k ∧ k < w.heap.size)
def OStep (A : World → (Nat → Prop) → Prop) (w : World) (O : Nat → Prop) (w' : World) : Prop := ∃ O', A w' O' ∧ (∀ k, O' k → O k ∨ w.heap.size ≤ k) ∧ Turned O w w'
def Both (A B : World → (Nat → Prop) → Prop) (w : World) (Q : Nat → Prop) : Prop := ∃ O P, A w O ∧ B w P ∧ (∀ j, O j → Q j ∧ j < w.heap.size ∧ ¬ P j) ∧ ∀ j, P j → Q j ∧ j < w.heap.size
theorem Both.below {A B : World → (Nat → Prop) → Prop} {w w' : World} {Q : Nat → Prop} (h : Both A B w Q) (hA : OAt A) (hB : OAt B) (hb : Below w.heap.size w w') : Both A B w' (fun j => Q j ∧ (j < w.heap.size ∨ w'.heap.size ≤ j)) := by
  obtain ⟨O, P, h1, h2, h3, h4⟩ := h
  have hz := hb.size
  exact ⟨O, P, hA.keep h1 (fun j _ hl => hb.block j hl) hz, hB.keep h2 (fun j _ hl => hb.block j hl) hz, fun j e => ⟨⟨(h3 j e).1, .inl (h3 j e).2.1⟩, Nat.lt_of_lt_of_le (h3 j e).2.1 hz, (h3 j e).2.2⟩, fun j e => ⟨⟨(h4 j e).1, .inl (h4 j e).2⟩, Nat.lt_of_lt_of_le (h4 j e).2 hz⟩⟩
theorem Both.mono {A B : World → (Nat → Prop) → Prop} {w : World} {Q Q' : Nat → Prop} (h : Both A B w Q) (hq : ∀ j, Q j → Q' j) : Both A B w Q' := by
  obtain ⟨O, P, h1, h2, h3, h4⟩ := h
  exact ⟨O, P, h1, h2, fun j e => ⟨hq j (h3 j e).1, (h3 j e).2⟩, fun j e => ⟨hq j (h4 j e).1, (h4 j e).2⟩⟩
theorem Both.swap {A B : World → (Nat → Prop) → Prop} {w : World} {Q : Nat → Prop} (h : Both A B w Q) : Both B A w Q := by
  obtain ⟨O, P, h1, h2, h3, h4⟩ := h
  exact ⟨P, O, h2, h1, fun j e => ⟨(h4 j e).1, (h4 j e).2, fun e' => (h3 j e').2.2 e⟩, fun j e => ⟨(h3 j e).1, (h3 j e).2.1⟩⟩
theorem Both.one {A B : World → (Nat → Prop) → Prop} {w : World} {Q : Nat → Prop} (h : Both A B w Q) (hB : OAt B) :
    ∃ O, A w O ∧ (∀ j, O j → Q j ∧ j < w.heap.size) ∧ (∀ A' w1 w', Below w.heap.size w w1 → OAt A' → OStep A' w1 O w' → Both A' B w' (fun j => Q j ∨ w1.heap.size ≤ j) ∧ Turned Q w w') ∧
      ∀ A' w', A' w' O → Turned O w w' → Both A' B w' (fun j => Q j ∧ (j < w.heap.size ∨ w'.heap.size ≤ j)) ∧ Turned Q w w' := by
  obtain ⟨O, P, h1, h2, h3, h4⟩ := h
  refine ⟨O, h1, fun j e => ⟨(h3 j e).1, (h3 j e).2.1⟩, fun A' w1 w' hb1 hA' hS => ?_, fun A' w' hA' hT => ?_⟩
  · obtain ⟨O', a1, a2, a3⟩ := hS
    have hz := a3.size
    have hz1 := hb1.size
    refine ⟨⟨fun k => O' k ∧ k < w'.heap.size, P, hA'.trim a1, hB.keep h2 (fun j e hl => (a3.block j (Nat.lt_of_lt_of_le hl hz1) (fun e' => (h3 j e').2.2 e)).trans (hb1.block j hl)) (Nat.le_trans hz1 hz), fun j e => ⟨?_, e.2, fun e' => ?_⟩, fun j e => ⟨.inl (h4 j e).1, Nat.lt_of_lt_of_le (h4 j e).2 (Nat.le_trans hz1 hz)⟩⟩, (Turned.of_below hb1).trans (a3.mono fun k e => (h3 k e).1) (fun _ _ e => e)⟩
    · rcases a2 j e.1 with e1 | e1
      · exact .inl (h3 j e1).1
      · exact .inr e1
    · rcases a2 j e.1 with e1 | e1
      · exact (h3 j e1).2.2 e'
      · have := (h4 j e').2; omega
  · have hz := hT.size
    exact ⟨⟨O, P, hA', hB.keep h2 (fun j e hl => hT.block j hl (fun e' => (h3 j e').2.2 e)) hz, fun j e => ⟨⟨(h3 j e).1, .inl (h3 j e).2.1⟩, Nat.lt_of_lt_of_le (h3 j e).2.1 hz, (h3 j e).2.2⟩, fun j e => ⟨⟨(h4 j e).1, .inl (h4 j e).2⟩, Nat.lt_of_lt_of_le (h4 j e).2 hz⟩⟩, hT.mono fun k e => (h3 k e).1⟩
theorem Both.two {A B : World → (Nat → Prop) → Prop} {w : World} {Q : Nat → Prop} (h : Both A B w Q) (hA : OAt A) :
    ∃ P, B w P ∧ (∀ j, P j → Q j ∧ j < w.heap.size) ∧ (∀ B' w1 w', Below w.heap.size w w1 → OAt B' → OStep B' w1 P w' → Both A B' w' (fun j => Q j ∨ w1.heap.size ≤ j) ∧ Turned Q w w') ∧
      ∀ B' w', B' w' P → Turned P w w' → Both A B' w' (fun j => Q j ∧ (j < w.heap.size ∨ w'.heap.size ≤ j)) ∧ Turned Q w w' := by
  obtain ⟨P, h1, h2, h3, h4⟩ := h.swap.one hA
  exact ⟨P, h1, h2, fun B' w1 w' hb hB' hS => by obtain ⟨a, b⟩ := h3 B' w1 w' hb hB' hS; exact ⟨a.swap, b⟩, fun B' w' hB' hT => by obtain ⟨a, b⟩ := h4 B' w' hB' hT; exact ⟨a.swap, b⟩⟩
theorem Both.make {A B : World → (Nat → Prop) → Prop} {w w' : World} {O Q : Nat → Prop} (hA : OAt A) (hB : OAt B) (h1 : A w O) (hO : ∀ j, O j → j < w.heap.size → Q j) (hQ : ∀ j, w.heap.size ≤ j → j < w'.heap.size → Q j) (hb : Below w.heap.size w w') (h2 : B w' (fun k => w.heap.size ≤ k)) : Both A B w' Q := by
  have hz := hb.size
  exact ⟨fun k => O k ∧ k < w.heap.size, fun k => w.heap.size ≤ k ∧ k < w'.heap.size, hA.keep (hA.trim h1) (fun j _ hl => hb.block j hl) hz, hB.trim h2, fun j e => ⟨hO j e.1 e.2, by have := e.2; omega, fun e' => by have := e.2; have := e'.1; omega⟩, fun j e => ⟨hQ j e.1 e.2, e.2⟩⟩
end Go.Proofs.YtmlfcbbgelkbbaaGreat

/- The statements' own example holds: alive answers true. -/
namespace Go.Proofs.YtmlfcbbgelkbbaaGreat
open Go.RowKit

theorem mem_o (g : Nat) (S : MS) : OAt (fun w O => MemAt w O g S) := ⟨fun h hk _ => h.keep hk, fun h => h.trim⟩
end Go.Proofs.YtmlfcbbgelkbbaaGreat

/- Plant.Make, of a memory that grows: the program's Raw, outright; for a seat without Made.Same. -/
namespace Go.Proofs.YtmlfcbbgelkbbaaGreat
open Go.RowKit

abbrev PPg {σ : Type} (A B : σ → World → (Nat → Prop) → Prop) (s : σ) (lo : Nat) (w : World) : Prop := Both (A s) (B s) w (fun j => lo ≤ j)
theorem pg_num {σ : Type} {A B : σ → World → (Nat → Prop) → Prop} (oA : ∀ s, OAt (A s)) (oB : ∀ s, OAt (B s)) {s s' : σ} {lo : Nat} {w : World} {F G : FuncId} {X Y : Array Value} {N E : Int} (h : PPg A B s lo w) (hlo : lo ≤ w.heap.size)
    (hF : ∀ O wb, A s wb O → (∀ j, O j → lo ≤ j ∧ (j < w.heap.size ∨ wb.heap.size ≤ j)) → Below w.heap.size w wb → Calls Tryz.prog F X wb fun e w' => e = .returned (.tuple #[.int .i64 N, .int .i64 E]) ∧ OStep (A s') wb O w')
    (hG : ∀ O wb, B s wb O → (∀ j, O j → lo ≤ j) → Turned (fun j => lo ≤ j) w wb → Calls Tryz.prog G Y wb fun e w' => e = .returned (.tuple #[.int .i64 N, .int .i64 E]) ∧ OStep (B s') wb O w') :
    ∀ wb, Below w.heap.size w wb → Calls Tryz.prog F X wb fun e w1 => e = .returned (.tuple #[.int .i64 N, .int .i64 E]) ∧ Turned (fun j => lo ≤ j ∧ (j < w.heap.size ∨ wb.heap.size ≤ j)) wb w1 ∧ Turned (fun j => lo ≤ j) w w1 ∧
      ∀ w2, Below w1.heap.size w1 w2 → Calls Tryz.prog G Y w2 fun e w3 => e = .returned (.tuple #[.int .i64 N, .int .i64 E]) ∧ Hid (PPg A B s' lo w3) ∧ Turned (fun j => lo ≤ j ∧ (j < w.heap.size ∨ wb.heap.size ≤ j)) wb w3 ∧ Turned (fun j => lo ≤ j) w w3 := by
  intro wb hb
  have hbb := Both.below h (oA _) (oB _) hb
  have hzb := hb.size
  obtain ⟨O, h1, h2, h3, -⟩ := hbb.one (oB _)
  refine (hF O wb h1 (fun j e => (h2 j e).1) hb).mono ?_
  rintro e w1 ⟨rfl, hS⟩
  obtain ⟨q1, q2⟩ := h3 (A s') wb w1 (Below.refl _ _) (oA _) hS
  have hT1 : Turned (fun j => lo ≤ j) w w1 := (Turned.of_below (S := fun j => lo ≤ j) hb).trans (q2.mono fun _ e => e.1) (fun _ _ e => e)
  refine ⟨rfl, q2, hT1, fun w2 hb2 => ?_⟩
  have hz1 := q2.size
  have hz2 := hb2.size
  have q3 := q1.below (oA _) (oB _) hb2
  obtain ⟨P, p1, p2, p3, -⟩ := q3.two (oA _)
  have hT2 := hT1.trans (Turned.of_below (S := fun j => lo ≤ j) hb2) (fun _ _ e => e)
  refine (hG P w2 p1 (fun j e => by rcases (p2 j e).1.1 with e | e; exact e.1; exact Nat.le_trans (Nat.le_trans hlo hzb) e) hT2).mono ?_
  rintro e w3 ⟨rfl, hS3⟩
  obtain ⟨r1, r2⟩ := p3 (B s') w2 w3 (Below.refl _ _) (oB _) hS3
  have hin : ∀ j, ((fun j => ((lo ≤ j ∧ (j < w.heap.size ∨ wb.heap.size ≤ j)) ∨ wb.heap.size ≤ j) ∧ (j < w1.heap.size ∨ w2.heap.size ≤ j)) j) → lo ≤ j ∧ (j < w.heap.size ∨ wb.heap.size ≤ j) := fun j e => by
    rcases e.1 with e1 | e1
    · exact e1
    · exact ⟨by omega, .inr e1⟩
  refine ⟨rfl, hide (r1.mono fun j e => ?_), (q2.trans (Turned.of_below (S := fun j => lo ≤ j ∧ (j < w.heap.size ∨ wb.heap.size ≤ j)) hb2) (fun _ _ e => e)).trans (r2.mono hin) (fun _ _ e => e), hT2.trans (r2.mono fun j e => (hin j e).1) (fun _ _ e => e)⟩
  rcases e with e | e
  · exact (hin j e).1
  · show lo ≤ j; omega
def mdg (T : TypeId) (v : Value) (g : Nat) (f q c : Option Addr) : Array Value := #[.iface T v, .pointer (some ⟨g, 0, none⟩), .pointer f, .pointer q, .pointer c, .pointer none, .pointer none]
def MdG (mb : Nat) (T : TypeId) (v : Value) (g : Nat) (f q c : Option Addr) (w : World) : Prop := w.heap[mb]? = some (.cells (mdg T v g f q c) 80)
theorem Both.turnedg {A B : World → (Nat → Prop) → Prop} {w w' : World} {Q S : Nat → Prop} (h : Both A B w Q) (hA : OAt A) (hB : OAt B) (hT : Turned S w w') (hS : ∀ j, Q j → ¬ S j) : Both A B w' Q := by
  obtain ⟨O, P, h1, h2, h3, h4⟩ := h
  exact ⟨O, P, hA.keep h1 (fun j e hl => hT.block j hl (hS j (h3 j e).1)) hT.size, hB.keep h2 (fun j e hl => hT.block j hl (hS j (h4 j e).1)) hT.size, fun j e => ⟨(h3 j e).1, Nat.lt_of_lt_of_le (h3 j e).2.1 hT.size, (h3 j e).2.2⟩, fun j e => ⟨(h4 j e).1, Nat.lt_of_lt_of_le (h4 j e).2 hT.size⟩⟩
theorem rmem_og (g : Nat) (kind : Int) (S : MS) : OAt (fun w O => RMemAt w O g kind S) := ⟨fun h hk _ => h.keep hk, fun h => h.trim⟩
def MadeG (mb : Nat) (w : World) : Prop := ∃ (y : Nat) (s : MS) (O : Nat → Prop), w.cell? ⟨mb, 0, none⟩ = some (.iface 77 (.pointer (some ⟨y, 0, none⟩))) ∧ MemAt w O y s ∧ ∀ j, O j → mb + 1 ≤ j ∧ j < w.heap.size
set_option maxRecDepth 100000 in
set_option maxHeartbeats 4000000 in
theorem make_growing_g (x : Plt) (dv rv wv fv lv : Value) (w : World) (h : PltIn w x dv rv wv fv lv) (hk : x.k6 = 1) :
    Calls Tryz.prog 16 #[.agg #[.int .i64 x.kind, .int .i64 x.size, dv, rv, wv, fv, lv, .int .i64 x.place, .bool x.app]] w (fun e w' => Below w.heap.size w w' ∧ ((grE x.data ≠ 0 ∧ ∃ p, e = .returned (.tuple #[.pointer p, .bool false])) ∨ ∃ mb, w.heap.size ≤ mb ∧ e = .returned (.tuple #[.pointer (some ⟨mb, 0, none⟩), .bool true]) ∧ MadeG mb w')) := by
  have HP := hide h
  obtain ⟨da, dc, rfl, -⟩ := h.d
  obtain ⟨ra, rc, rfl, -⟩ := h.r
  obtain ⟨wa, wc, rfl⟩ := h.w.form
  obtain ⟨fa, fc, rfl, -⟩ := h.f.form
  obtain ⟨la, lc, rfl, -⟩ := RowsR.form h.l
  unfold Plt.k6 at hk
  have HY : Hid (∀ W, Below w.heap.size w W → Bys W (.slice da x.data.length dc) x.data) := hide fun W hW => by
    obtain ⟨va, vc, e, hb, -⟩ := HP.out.d
    cases e
    exact hb.below hW
  clear h
  go_enter Tryz.func16, Tryz.ntmps16
  go_wp2_with fail
  have hz1 : (w.alloc (Obj.cells #[.int .i64 x.kind, .int .i64 x.size, .slice da x.data.length dc, .slice ra x.reads.length rc, .slice wa x.writes.length wc, .slice fa x.fs.length fc, .slice la x.lines.length lc, .int .i64 x.place, .bool x.app] 50)).heap.size = w.heap.size + 1 := Array.size_push _
  have hz0 : ((w.alloc (Obj.cells #[.int .i64 x.kind, .int .i64 x.size, .slice da x.data.length dc, .slice ra x.reads.length rc, .slice wa x.writes.length wc, .slice fa x.fs.length fc, .slice la x.lines.length lc, .int .i64 x.place, .bool x.app] 50)).alloc (Obj.cells #[.nilIface, .pointer none, .pointer none, .pointer none, .pointer none, .pointer none, .pointer none] 80)).heap.size = w.heap.size + 1 + 1 := (Array.size_push _).trans (by rw [show (w.alloc (Obj.cells #[.int .i64 x.kind, .int .i64 x.size, .slice da x.data.length dc, .slice ra x.reads.length rc, .slice wa x.writes.length wc, .slice fa x.fs.length fc, .slice la x.lines.length lc, .int .i64 x.place, .bool x.app] 50)).heap.size = w.heap.size + 1 from hz1])
  have HB0 := hide ((recv4 w (Obj.cells #[.int .i64 x.kind, .int .i64 x.size, .slice da x.data.length dc, .slice ra x.reads.length rc, .slice wa x.writes.length wc, .slice fa x.fs.length fc, .slice la x.lines.length lc, .int .i64 x.place, .bool x.app] 50)).trans ((recv4 (w.alloc (Obj.cells #[.int .i64 x.kind, .int .i64 x.size, .slice da x.data.length dc, .slice ra x.reads.length rc, .slice wa x.writes.length wc, .slice fa x.fs.length fc, .slice la x.lines.length lc, .int .i64 x.place, .bool x.app] 50)) (Obj.cells #[.nilIface, .pointer none, .pointer none, .pointer none, .pointer none, .pointer none, .pointer none] 80)).mono (recv4 w (Obj.cells #[.int .i64 x.kind, .int .i64 x.size, .slice da x.data.length dc, .slice ra x.reads.length rc, .slice wa x.writes.length wc, .slice fa x.fs.length fc, .slice la x.lines.length lc, .int .i64 x.place, .bool x.app] 50)).size))
  have hq : ((w.alloc (Obj.cells #[.int .i64 x.kind, .int .i64 x.size, .slice da x.data.length dc, .slice ra x.reads.length rc, .slice wa x.writes.length wc, .slice fa x.fs.length fc, .slice la x.lines.length lc, .int .i64 x.place, .bool x.app] 50)).alloc (Obj.cells #[.nilIface, .pointer none, .pointer none, .pointer none, .pointer none, .pointer none, .pointer none] 80)).heap[w.heap.size]? = some (Obj.cells #[.int .i64 x.kind, .int .i64 x.size, .slice da x.data.length dc, .slice ra x.reads.length rc, .slice wa x.writes.length wc, .slice fa x.fs.length fc, .slice la x.lines.length lc, .int .i64 x.place, .bool x.app] 50) := ((recv4 (w.alloc (Obj.cells #[.int .i64 x.kind, .int .i64 x.size, .slice da x.data.length dc, .slice ra x.reads.length rc, .slice wa x.writes.length wc, .slice fa x.fs.length fc, .slice la x.lines.length lc, .int .i64 x.place, .bool x.app] 50)) (Obj.cells #[.nilIface, .pointer none, .pointer none, .pointer none, .pointer none, .pointer none, .pointer none] 80)).block w.heap.size (by omega)).trans (heap_alloc_new w (Obj.cells #[.int .i64 x.kind, .int .i64 x.size, .slice da x.data.length dc, .slice ra x.reads.length rc, .slice wa x.writes.length wc, .slice fa x.fs.length fc, .slice la x.lines.length lc, .int .i64 x.place, .bool x.app] 50))
  have hm0 : ((w.alloc (Obj.cells #[.int .i64 x.kind, .int .i64 x.size, .slice da x.data.length dc, .slice ra x.reads.length rc, .slice wa x.writes.length wc, .slice fa x.fs.length fc, .slice la x.lines.length lc, .int .i64 x.place, .bool x.app] 50)).alloc (Obj.cells #[.nilIface, .pointer none, .pointer none, .pointer none, .pointer none, .pointer none, .pointer none] 80)).heap[w.heap.size + 1]? = some (Obj.cells #[.nilIface, .pointer none, .pointer none, .pointer none, .pointer none, .pointer none, .pointer none] 80) := by
    have := heap_alloc_new (w.alloc (Obj.cells #[.int .i64 x.kind, .int .i64 x.size, .slice da x.data.length dc, .slice ra x.reads.length rc, .slice wa x.writes.length wc, .slice fa x.fs.length fc, .slice la x.lines.length lc, .int .i64 x.place, .bool x.app] 50)) (Obj.cells #[.nilIface, .pointer none, .pointer none, .pointer none, .pointer none, .pointer none, .pointer none] 80)
    rwa [hz1] at this
  have HQ := hide (And.intro hq hm0)
  generalize (w.alloc (Obj.cells #[.int .i64 x.kind, .int .i64 x.size, .slice da x.data.length dc, .slice ra x.reads.length rc, .slice wa x.writes.length wc, .slice fa x.fs.length fc, .slice la x.lines.length lc, .int .i64 x.place, .bool x.app] 50)).alloc (Obj.cells #[.nilIface, .pointer none, .pointer none, .pointer none, .pointer none, .pointer none, .pointer none] 80) = W0 at *
  clear hq hm0 hz1
  obtain ⟨mb, hmb⟩ : ∃ mb, mb = w.heap.size + 1 := ⟨_, rfl⟩
  rw [← hmb] at hz0 HQ
  simp only [← hmb]
  have hwm : w.heap.size < mb := by omega
  clear hmb
  refine (rnewGrowing_any _ x.data W0 (HY.out _ HB0.out)).mono ?_
  rintro _ w1 ⟨p1, rfl, hB1, hR1⟩
  have r1 := (hB1.block mb (by omega)).trans HQ.out.2
  have l1 := (hB1.block w.heap.size (by omega)).trans HQ.out.1
  have mc := cell_of_row w1 mb 1 _ _ _ r1
  have mf := frozen_of_row w1 mb 1 _ _ r1
  have s1 := Go.heap_setCell_same w1 mb 1 _ _ (.pointer p1) r1
  have t1 := (heap_setCell_other w1 ⟨mb, 1, none⟩ w.heap.size (.pointer p1) (by show w.heap.size ≠ mb; omega)).trans l1
  have pc1 := cell_of_row _ w.heap.size 1 _ _ _ t1
  have pc2 := cell_of_row _ w.heap.size 2 _ _ _ t1
  simp at mc pc1 pc2
  have hzw : W0.heap.size ≤ w1.heap.size := hB1.size
  have HB1 := hide ((HB0.out.trans (hB1.mono HB0.out.size)).setCell (p := ⟨mb, 1, none⟩) (by show w.heap.size ≤ mb; omega) (.pointer p1))
  have HR1 : Hid ((grE x.data ≠ 0 ∧ p1 = none) ∨ (grE x.data = 0 ∧ ∃ g, p1 = some ⟨g, 0, none⟩ ∧ RMemAt (w1.setCell ⟨mb, 1, none⟩ (.pointer p1)) (fun k => mb + 1 ≤ k) g 2 ⟨x.data, 1048576, 0⟩)) := hide (by
    rcases hR1 with h | ⟨h1, g, h2, h3⟩
    · exact .inl h
    · exact .inr ⟨h1, g, h2, (h3.mono (fun k e => by rw [hz0] at e; exact e)).keep (fun k e _ => heap_setCell_other _ _ _ _ (by show k ≠ mb; have e2 : mb + 1 ≤ k := e; omega))⟩)
  have HS1 := hide (And.intro s1 t1)
  have hzs : (w1.setCell ⟨mb, 1, none⟩ (.pointer p1)).heap.size = w1.heap.size := by simp [World.setCell]
  clear hB1 hR1 r1 l1 s1 t1 HQ HB0
  go_wp2_with fail
  generalize w1.setCell ⟨mb, 1, none⟩ (.pointer p1) = W1 at *
  refine (newGrowing_any _ x.data _ (HY.out _ HB1.out)).mono ?_
  rintro _ w2 ⟨p2, rfl, hB2, hR2⟩
  have r2 := (hB2.block mb (by omega)).trans HS1.out.1
  have l2 := (hB2.block w.heap.size (by omega)).trans HS1.out.2
  have mc2 := cell_of_row w2 mb 3 _ _ _ r2
  have mf2 := frozen_of_row w2 mb 3 _ _ r2
  have s2 := Go.heap_setCell_same w2 mb 3 _ _ (.pointer p2) r2
  have mc3 := cell_of_row _ mb 3 _ _ _ s2
  have mc0 := cell_of_row _ mb 0 _ _ _ s2
  have mf0 := frozen_of_row _ mb 0 _ _ s2
  have s3 := Go.heap_setCell_same _ mb 0 _ _ (.iface 77 (.pointer p2)) s2
  simp at mc2 mc3 mc0
  have HS3 := hide s3
  have HR2 := hide hR2
  have HB2 := hide hB2
  clear hB2 hR2 r2 l2 s2 s3 mc mf pc1 pc2
  by_cases hE : grE x.data = 0
  · obtain ⟨g, rfl, hM1⟩ : ∃ g, p1 = some ⟨g, 0, none⟩ ∧ RMemAt W1 (fun k => mb + 1 ≤ k) g 2 ⟨x.data, 1048576, 0⟩ := by
      rcases HR1.out with ⟨h, _⟩ | ⟨_, h⟩
      · exact absurd hE h
      · exact h
    obtain ⟨y, rfl, hM2⟩ : ∃ y, p2 = some ⟨y, 0, none⟩ ∧ MemAt w2 (fun k => W1.heap.size ≤ k) y ⟨x.data, 1048576, 0⟩ := by
      rcases HR2.out with ⟨h, _⟩ | ⟨_, h⟩
      · exact absurd hE h
      · exact h
    rw [hE]
    have hB2z := HB2.out.size
    have HPP := hide (Both.turnedg (Both.make (Q := fun j => mb + 1 ≤ j) (rmem_og _ _ _) (mem_o _ _) hM1 (fun j e _ => e) (fun j e _ => by omega) HB2.out hM2).swap (mem_o _ _) (rmem_og _ _ _) ((((Turned.refl (fun k => k = mb) w2).set (j := 3) (u := .pointer (some ⟨y, 0, none⟩)) (.inl rfl)).set (j := 0) (u := .iface 77 (.pointer (some ⟨y, 0, none⟩))) (.inl rfl))) (fun j e e' => by have e2 : j = mb := e'; have e3 : mb + 1 ≤ j := e; omega))
    have HMd : Hid (MdG mb 77 (.pointer (some ⟨y, 0, none⟩)) g none (some ⟨y, 0, none⟩) none ((w2.setCell ⟨mb, 3, none⟩ (.pointer (some ⟨y, 0, none⟩))).setCell ⟨mb, 0, none⟩ (.iface 77 (.pointer (some ⟨y, 0, none⟩))))) := HS3
    have HL := hide ((heap_setCell_other (w2.setCell ⟨mb, 3, none⟩ (.pointer (some ⟨y, 0, none⟩))) ⟨mb, 0, none⟩ w.heap.size (.iface 77 (.pointer (some ⟨y, 0, none⟩))) (by show w.heap.size ≠ mb; omega)).trans ((heap_setCell_other w2 ⟨mb, 3, none⟩ w.heap.size (.pointer (some ⟨y, 0, none⟩)) (by show w.heap.size ≠ mb; omega)).trans ((HB2.out.block w.heap.size (by omega)).trans HS1.out.2)))
    have HB3 := hide (((HB1.out.trans (HB2.out.mono HB1.out.size)).setCell (p := ⟨mb, 3, none⟩) (by show w.heap.size ≤ mb; omega) (.pointer (some ⟨y, 0, none⟩))).setCell (p := ⟨mb, 0, none⟩) (by show w.heap.size ≤ mb; omega) (.iface 77 (.pointer (some ⟨y, 0, none⟩))))
    clear hM1 hM2 HR1 HR2 HS3 HS1
    go_wp2_with fail
    generalize (w2.setCell ⟨mb, 3, none⟩ (.pointer (some ⟨y, 0, none⟩))).setCell ⟨mb, 0, none⟩ (.iface 77 (.pointer (some ⟨y, 0, none⟩))) = W3 at *
    have hm3 : ∀ w, (method 502 77 (.pointer (some ⟨y, 0, none⟩)) "Seek").run Tryz.prog w = .ok (307, .pointer (some ⟨y, 0, none⟩)) w := fun w => by kernel_rfl
    have hc3 : ∀ a w, (callFunc 307 a).run Tryz.prog w = .ok (.enter 307 a) w := fun a w => by kernel_rfl
    have m0 : W3.cell? ⟨mb, 0, none⟩ = some (.iface 77 (.pointer (some ⟨y, 0, none⟩))) := cell_of_row W3 mb 0 _ _ _ HMd.out
    have m1 : W3.cell? ⟨mb, 1, none⟩ = some (.pointer (some ⟨g, 0, none⟩)) := cell_of_row W3 mb 1 _ _ _ HMd.out
    have p7 : W3.cell? ⟨w.heap.size, 7, none⟩ = some (.int .i64 x.place) := cell_of_row W3 w.heap.size 7 _ _ _ HL.out
    have hml : mb < W3.heap.size := World.block_lt_of_cell? W3 _ m0
    have HC := hide (pg_num (fun s => mem_o _ _) (fun s => rmem_og _ _ _) (A := fun S w O => MemAt w O y S) (B := fun S w O => RMemAt w O g 2 S) HPP.out (by omega) (s' := (MS.seek ⟨x.data, 1048576, 0⟩ x.place 0).2.2) (fun O wb hA _ _ => gmseek_any _ _ _ x.place 0 _ hA) (fun O wb hA _ _ => (rrmseek_any _ _ _ x.place 0 _ _ hA (.inr (.inl rfl))).mono fun e w' ⟨h1, h3, h4⟩ => ⟨h1, _, h3, fun _ e => .inl e, h4⟩))
    have HS := hide (fun (W' : World) (hT : Turned (fun j => mb + 1 ≤ j) W3 W') => (show (W'.cell? ⟨mb, 0, none⟩ = some (.iface 77 (.pointer (some ⟨y, 0, none⟩))) ∧ W'.cell? ⟨mb, 1, none⟩ = some (.pointer (some ⟨g, 0, none⟩)) ∧ W'.cell? ⟨w.heap.size, 7, none⟩ = some (.int .i64 x.place)) ∧ W'.heap[mb]? = W3.heap[mb]? from
      ⟨⟨hT.cell m0 (by show ¬ mb + 1 ≤ mb; omega), hT.cell m1 (by show ¬ mb + 1 ≤ mb; omega), hT.cell p7 (by show ¬ mb + 1 ≤ w.heap.size; omega)⟩, hT.block mb hml (by show ¬ mb + 1 ≤ mb; omega)⟩))
    generalize MS.seek ⟨x.data, 1048576, 0⟩ x.place 0 = X at *
    obtain ⟨N, E, s2⟩ := X
    simp only at *
    go_region_held3 (fun w' => w'.cell? ⟨mb, 0, none⟩ = some (.iface 77 (.pointer (some ⟨y, 0, none⟩))) ∧ w'.cell? ⟨w.heap.size, 7, none⟩ = some (.int .i64 x.place))
      (first | exact K4 | exact ⟨m0, p7⟩ | go_keep)
      (first
        | (refine (HC.out _ (Below.refl _ _).drew).mono ?_; rintro _ w4 ⟨rfl, -, hT4, hC4⟩; have K4 : w4.cell? ⟨mb, 0, none⟩ = some (.iface 77 (.pointer (some ⟨y, 0, none⟩))) ∧ w4.cell? ⟨w.heap.size, 7, none⟩ = some (.int .i64 x.place) := ⟨(HS.out w4 hT4).1.1, (HS.out w4 hT4).1.2.2⟩; have HT4 := hide hT4; have HC4 := hide hC4; clear hT4 hC4)
        | fail)
    have n1 := (HS.out w4 HT4.out).1.2.1
    have n2 := K4.2
    clear K4 HC
    go_wp2_with fail
    go_region_held3 (fun w' => w'.cell? ⟨mb, 1, none⟩ = some (.pointer (some ⟨g, 0, none⟩)) ∧ w'.cell? ⟨w.heap.size, 7, none⟩ = some (.int .i64 x.place))
      (first | exact K6 | exact ⟨n1, n2⟩ | go_keep)
      (first
        | (go_at_call 93; refine (HC4.out _ (Below.refl _ _).drew).mono ?_; rintro _ w6 ⟨rfl, HN6, -, hT6⟩; have K6 : w6.cell? ⟨mb, 1, none⟩ = some (.pointer (some ⟨g, 0, none⟩)) ∧ w6.cell? ⟨w.heap.size, 7, none⟩ = some (.int .i64 x.place) := ⟨(HS.out w6 hT6).1.2.1, (HS.out w6 hT6).1.2.2⟩; have HT6 := hide hT6; clear hT6)
        | fail)
    clear K6 n1 n2 HC4
    go_wp2
    go_ret2
    obtain ⟨O, P, q1, -, q3, -⟩ := HN6.out
    exact ⟨HB3.out.trans (HT6.out.below (fun j e => by have e2 : mb + 1 ≤ j := e; omega) HB3.out.size), .inr ⟨mb, by omega, rfl, y, s2, O, (HS.out w6 HT6.out).1.1, q1, fun j e => ⟨(q3 j e).1, (q3 j e).2.1⟩⟩⟩
  · have hE2 : (grE x.data != 0) = true := by simpa using hE
    have hE3 : (grE x.data == 0) = false := by simpa using hE
    go_wp2_with fail
    go_ret2
    exact ⟨((HB1.out.trans (HB2.out.mono HB1.out.size)).setCell (p := ⟨mb, 3, none⟩) (by show w.heap.size ≤ mb; omega) _).setCell (p := ⟨mb, 0, none⟩) (by show w.heap.size ≤ mb; omega) _, .inl ⟨hE, _, rfl⟩⟩
end Go.Proofs.YtmlfcbbgelkbbaaGreat

/- Raws, as values and in memory; retry's small functions. -/
namespace Go.Proofs.YtmlfcbbgelkbbaaGreat
open Go.RowKit Go.Maps

structure RawD (S : Type) where
  read : S → Nat → List UInt8 × Int × S
  write : S → List UInt8 → Int × Int × S
structure RawP {S : Type} (D : RawD S) (T : TypeId) (v : Value) (fr fw : FuncId) (rok wok : S → Prop) (At : World → (Nat → Prop) → S → Prop) : Prop where
  mread : ∀ w, (method 502 T v "Read").run Tryz.prog w = .ok (fr, v) w
  mwrite : ∀ w, (method 502 T v "Write").run Tryz.prog w = .ok (fw, v) w
  cread : ∀ a w, (callFunc fr a).run Tryz.prog w = .ok (.enter fr a) w
  cwrite : ∀ a w, (callFunc fw a).run Tryz.prog w = .ok (.enter fw a) w
  keep : ∀ {w w' : World} {O : Nat → Prop} {s : S}, At w O s → (∀ j, O j → j < w.heap.size → w'.heap[j]? = w.heap[j]?) → w.heap.size ≤ w'.heap.size → At w' O s
  few : ∀ {w : World} {O : Nat → Prop} {s : S} (n : Nat), At w O s → (D.read s n).1.length ≤ 1073741824
  read : ∀ {w : World} {O : Nat → Prop} {s : S} (n : Nat), At w O s → rok s → 1 ≤ n → n ≤ 1048576 → Calls Tryz.prog fr #[v, .int .i64 n] w fun e w' => ∃ ua uc, e = .returned (.tuple #[.slice ua (D.read s n).1.length uc, .int .i64 (D.read s n).2.1]) ∧ Bys w' (.slice ua (D.read s n).1.length uc) (D.read s n).1 ∧ At w' O (D.read s n).2.2 ∧ Turned O w w'
  write : ∀ {w : World} {O : Nat → Prop} {s : S} (bs : List UInt8) (a : Option Addr) (c : Nat), At w O s → wok s → Bys w (.slice a bs.length c) bs → bs.length ≤ c → 1 ≤ bs.length → bs.length ≤ 1048576 → (∀ k, (Value.slice a bs.length c).ownBlock = some k → ¬ O k) →
    Calls Tryz.prog fw #[v, .slice a bs.length c] w fun e w' => e = .returned (.tuple #[.int .i64 (D.write s bs).1, .int .i64 (D.write s bs).2.1]) ∧ ∃ O', At w' O' (D.write s bs).2.2 ∧ (∀ k, O' k → O k ∨ w.heap.size ≤ k) ∧ Turned O w w'
structure RawM {S : Type} (D : RawD S) (T : TypeId) (v : Value) (fr fw : FuncId) (rok wok : S → Prop) (At : World → (Nat → Prop) → S → Prop) : Prop where
  rd : (∃ s, rok s) → ∃ vr : Value, (∀ w, (method 502 T v "Read").run Tryz.prog w = .ok (fr, vr) w) ∧ ∀ {w : World} {O : Nat → Prop} {s : S} (n : Nat), At w O s → rok s → 1 ≤ n → n ≤ 1048576 → Calls Tryz.prog fr #[vr, .int .i64 n] w fun e w' => ∃ ua uc, e = .returned (.tuple #[.slice ua (D.read s n).1.length uc, .int .i64 (D.read s n).2.1]) ∧ Bys w' (.slice ua (D.read s n).1.length uc) (D.read s n).1 ∧ At w' O (D.read s n).2.2 ∧ Turned O w w'
  mwrite : ∀ w, (method 502 T v "Write").run Tryz.prog w = .ok (fw, v) w
  cread : ∀ a w, (callFunc fr a).run Tryz.prog w = .ok (.enter fr a) w
  cwrite : ∀ a w, (callFunc fw a).run Tryz.prog w = .ok (.enter fw a) w
  keep : ∀ {w w' : World} {O : Nat → Prop} {s : S}, At w O s → (∀ j, O j → j < w.heap.size → w'.heap[j]? = w.heap[j]?) → w.heap.size ≤ w'.heap.size → At w' O s
  few : ∀ {w : World} {O : Nat → Prop} {s : S} (n : Nat), At w O s → (D.read s n).1.length ≤ 1073741824
  write : ∀ {w : World} {O : Nat → Prop} {s : S} (bs : List UInt8) (a : Option Addr) (c : Nat), At w O s → wok s → Bys w (.slice a bs.length c) bs → bs.length ≤ c → 1 ≤ bs.length → bs.length ≤ 1048576 → (∀ k, (Value.slice a bs.length c).ownBlock = some k → ¬ O k) →
    Calls Tryz.prog fw #[v, .slice a bs.length c] w fun e w' => e = .returned (.tuple #[.int .i64 (D.write s bs).1, .int .i64 (D.write s bs).2.1]) ∧ ∃ O', At w' O' (D.write s bs).2.2 ∧ (∀ k, O' k → O k ∨ w.heap.size ≤ k) ∧ Turned O w w'
theorem RawP.gen {S : Type} {D : RawD S} {T : TypeId} {v : Value} {fr fw : FuncId} {rok wok : S → Prop} {At : World → (Nat → Prop) → S → Prop} (R : RawP D T v fr fw rok wok At) : RawM D T v fr fw rok wok At := ⟨fun _ => ⟨v, R.mread, fun n => R.read n⟩, R.mwrite, R.cread, R.cwrite, R.keep, R.few, R.write⟩
theorem view_own {P : Prop} {w : World} {E : Int} {l : List UInt8} {e : Ending} {w' : World} (h : ∃ u, e = .returned (.tuple #[u, .int .i64 E]) ∧ w'.ownsRow w.heap.size 5 1 u l.length (l.map bv) ∧ P) : ∃ ua uc, e = .returned (.tuple #[.slice ua l.length uc, .int .i64 E]) ∧ Bys w' (.slice ua l.length uc) l ∧ P := by
  obtain ⟨u, rfl, ho, hp⟩ := h
  obtain ⟨ua, uc, rfl⟩ := owns_slice ho
  exact ⟨ua, uc, rfl, Bys.of_owns ho, hp⟩
def someV {S : Type} (D : RawD S) (n : Nat) : Nat → S → List UInt8 × Int × S
  | 0, s => ([], 81, s)
  | k + 1, s => if (D.read s n).2.1 = 22 ∨ (D.read s n).2.1 = 23 then someV D n k (D.read s n).2.2
      else if n < (D.read s n).1.length then ([], 82, (D.read s n).2.2)
      else if (D.read s n).2.1 = 0 then ((D.read s n).1, 0, (D.read s n).2.2)
      else ([], (D.read s n).2.1, (D.read s n).2.2)
theorem someV_next {S : Type} (D : RawD S) (n k : Nat) (s : S) {b : List UInt8} {e : Int} {s2 : S} (h : D.read s n = (b, e, s2)) : someV D n (k + 1) s = if e = 22 ∨ e = 23 then someV D n k s2 else if n < b.length then ([], 82, s2) else if e = 0 then (b, 0, s2) else ([], e, s2) := by
  show (if (D.read s n).2.1 = 22 ∨ (D.read s n).2.1 = 23 then someV D n k (D.read s n).2.2 else if n < (D.read s n).1.length then ([], 82, (D.read s n).2.2) else if (D.read s n).2.1 = 0 then ((D.read s n).1, 0, (D.read s n).2.2) else ([], (D.read s n).2.1, (D.read s n).2.2)) = _
  rw [h]
def someOk {S : Type} (D : RawD S) (ok : S → Prop) (n : Nat) : Nat → S → Prop
  | 0, _ => True
  | k + 1, s => ok s ∧ ((D.read s n).2.1 = 22 ∨ (D.read s n).2.1 = 23 → someOk D ok n k (D.read s n).2.2)
def putV {S : Type} (D : RawD S) (bs : List UInt8) : Nat → S → Nat → Nat → Nat × Int × S
  | 0, s, d, _ => (d, 0, s)
  | k + 1, s, d, t => if d < bs.length then
      (if ((D.write s (bs.drop d)).2.1 = 22 ∨ (D.write s (bs.drop d)).2.1 = 23) ∨ ((D.write s (bs.drop d)).1 = 0 ∧ (D.write s (bs.drop d)).2.1 = 0) then
        (if t + 1 = 8192 then (d, 81, (D.write s (bs.drop d)).2.2) else putV D bs k (D.write s (bs.drop d)).2.2 d (t + 1))
       else if (D.write s (bs.drop d)).1 < 0 ∨ ((bs.length - d : Nat) : Int) < (D.write s (bs.drop d)).1 then (d, 82, (D.write s (bs.drop d)).2.2)
       else if (D.write s (bs.drop d)).2.1 = 0 then putV D bs k (D.write s (bs.drop d)).2.2 (d + (D.write s (bs.drop d)).1.toNat) 0
       else (d, (D.write s (bs.drop d)).2.1, (D.write s (bs.drop d)).2.2))
      else (d, 0, s)
def putOk {S : Type} (D : RawD S) (ok : S → Prop) (bs : List UInt8) : Nat → S → Nat → Nat → Prop
  | 0, _, _, _ => True
  | k + 1, s, d, t => d < bs.length → ok s ∧
      (((D.write s (bs.drop d)).2.1 = 22 ∨ (D.write s (bs.drop d)).2.1 = 23) ∨ ((D.write s (bs.drop d)).1 = 0 ∧ (D.write s (bs.drop d)).2.1 = 0) → t + 1 ≠ 8192 → putOk D ok bs k (D.write s (bs.drop d)).2.2 d (t + 1)) ∧
      ((D.write s (bs.drop d)).2.1 = 0 → 1 ≤ (D.write s (bs.drop d)).1 → (D.write s (bs.drop d)).1 ≤ ((bs.length - d : Nat) : Int) → putOk D ok bs k (D.write s (bs.drop d)).2.2 (d + (D.write s (bs.drop d)).1.toNat) 0)
def putF (bs : List UInt8) : Nat := bs.length * 8192 + 8192
theorem isTry_yes (e : Int) (w : World) (h : e = 22 ∨ e = 23) : Calls Tryz.prog 233 #[.int .i64 e] w fun r w' => r = .returned (.bool true) ∧ w = w' := by
  rcases h with rfl | rfl
  all_goals
    go_enter Tryz.func233, Tryz.ntmps233
    go_wp2
    go_ret
    exact ⟨rfl, rfl⟩
theorem isTry_no (e : Int) (w : World) (h : ¬ (e = 22 ∨ e = 23)) : Calls Tryz.prog 233 #[.int .i64 e] w fun r w' => r = .returned (.bool false) ∧ w = w' := by
  have h1 : ¬ e = 22 := fun x => h (.inl x)
  have h2 : ¬ e = 23 := fun x => h (.inr x)
  have h3 : (e == 22) = false := by simp [h1]
  have h4 : (e == 23) = false := by simp [h2]
  go_enter Tryz.func233, Tryz.ntmps233
  go_wp2
  go_ret
  exact ⟨rfl, rfl⟩
theorem readable_yes (T : TypeId) (v : Value) (n : Int) (w : World) (h1 : 1 ≤ n) (h2 : n ≤ 1048576) : Calls Tryz.prog 273 #[.iface T v, .int .i64 n] w fun r w' => r = .returned (.int .i64 0) ∧ w = w' := by
  have h3 : ¬ n < 1 := by omega
  have h4 : ¬ 1048576 < n := by omega
  go_enter Tryz.func273, Tryz.ntmps273
  go_wp2
  go_ret
  exact ⟨rfl, rfl⟩
set_option maxRecDepth 100000 in
set_option maxHeartbeats 1000000 in
theorem bclone_any (v : Value) (l : List UInt8) (w : World) (h : Bys w v l) (hs : l.length ≤ 140737488351232) :
    Calls Tryz.prog 193 #[v] w fun e w' => ∃ u, e = .returned u ∧ w'.ownsRow w.heap.size 5 1 u l.length (l.map bv) ∧ Below w.heap.size w w' := by
  have hmade : (w.alloc (Obj.cells #[] 5)).ownsRow w.heap.size 5 1 (.slice (some ⟨w.heap.size, 0, none⟩) 0 0) ([] : List UInt8).length (([] : List UInt8).map bv) := World.ownsRow_made _ _ _ (Nat.le_refl _) (by decide) rfl
  have hB := recv_below w (Obj.cells #[] 5)
  obtain ⟨s', w1, hrun, HO, hg, hb⟩ := run_append_bytes (w.alloc (Obj.cells #[] 5)) 40 w.heap.size _ v [] l hmade (h.below hB) (by simpa using hs) hB.size
  have HR := hide hrun
  have HB : Hid (Below w.heap.size w w1) := hide (hB.grown hg hB.size (fun j e => by
    have : w.heap.size = j := by simpa [Value.ownBlock] using e
    omega))
  rcases h with ⟨rfl, rfl⟩ | ⟨a, cap, rfl, rfl⟩ | ⟨b, off, cap, rfl, h0, -⟩
  · have hnil : ∀ W, (binOp .eql 40 (.slice none 0 0) (.slice none 0 0)).run Tryz.prog W = .ok (.bool true) W := fun W => Lib.run_eql_slice_nil_nil W _ _ Tryz.underlying40
    go_enter Tryz.func193, Tryz.ntmps193
    go_wp2
    go_ret
    exact ⟨_, rfl, World.ownsRow_nil _ _ _ _, Below.refl _ _⟩
  · have hnil : ∀ W, (binOp .eql 40 (.slice (some a) 0 cap) (.slice none 0 0)).run Tryz.prog W = .ok (.bool false) W := fun W => Lib.run_eql_slice_some_nil W _ _ _ Tryz.underlying40
    clear hrun hg hb hmade hB
    go_enter Tryz.func193, Tryz.ntmps193
    go_wp2_with (at_builtin; refine Lib.wpList_append_run _ rfl _ _ _ _ rfl _ _ rfl rfl _ _ HR.out ?_)
    go_ret
    exact ⟨_, rfl, HO.out, HB.out⟩
  · have hnil : ∀ W, (binOp .eql 40 (.slice (some ⟨b, off, none⟩) l.length cap) (.slice none 0 0)).run Tryz.prog W = .ok (.bool false) W := fun W => Lib.run_eql_slice_some_nil W _ _ _ Tryz.underlying40
    clear hrun hg hb hmade hB
    go_enter Tryz.func193, Tryz.ntmps193
    go_wp2_with (at_builtin; refine Lib.wpList_append_run _ rfl _ _ _ _ rfl _ _ rfl rfl _ _ HR.out ?_)
    go_ret
    exact ⟨_, rfl, HO.out, HB.out⟩
end Go.Proofs.YtmlfcbbgelkbbaaGreat

/- Some, over any Raw. -/
namespace Go.Proofs.YtmlfcbbgelkbbaaGreat
open Go.RowKit Go.Maps

set_option maxRecDepth 100000 in
set_option maxHeartbeats 4000000 in
theorem some_any {S : Type} {D : RawD S} {T : TypeId} {v : Value} {fr fw : FuncId} {rok wok : S → Prop} {At : World → (Nat → Prop) → S → Prop} (R : RawM D T v fr fw rok wok At) {w : World} {O : Nat → Prop} {s : S} (n : Nat) (h : At w O s) (h1 : 1 ≤ n) (h2 : n ≤ 1048576) (hok : someOk D rok n 8192 s) :
    Calls Tryz.prog 243 #[.iface T v, .int .i64 n] w fun e w' => ∃ u, e = .returned (.tuple #[u, .int .i64 (someV D n 8192 s).2.1]) ∧ w'.ownsRow w.heap.size 5 1 u (someV D n 8192 s).1.length ((someV D n 8192 s).1.map bv) ∧ At w' O (someV D n 8192 s).2.2 ∧ Turned O w w' := by
  have hok1 : someOk D rok n (8191 + 1) s := hok
  obtain ⟨vr, hm, hrd0⟩ := R.rd ⟨s, hok1.1⟩
  clear hok1
  have HRd0 := hide (fun (w : World) (O : Nat → Prop) (s : S) (n : Nat) => @hrd0 w O s n)
  clear hrd0
  have hcr := R.cread
  have HA := hide h
  have HOk := hide hok
  have HR := hide R
  clear h hok R
  go_enter Tryz.func243, Tryz.ntmps243
  go_wp2_with (first | (go_at_call 273; refine (readable_yes T v n _ (by omega) (by omega)).mono ?_; rintro _ _ ⟨rfl, rfl⟩) | fail)
  obtain ⟨tr, htr⟩ : ∃ tr, tr = 8192 := ⟨_, rfl⟩
  have HTr := hide htr
  clear htr
  go_loopw [15] (fun i wr => ∃ (k : Nat) (s' : S), i = .int .i64 k ∧ k ≤ 8192 ∧ Hid (At wr O s') ∧ Hid (someOk D rok n (tr - k) s' ∧ someV D n (tr - k) s' = someV D n 8192 s) ∧ Hid (Turned O w wr) ∧ w.heap.size ≤ wr.heap.size) (fun i _ => 8192 - (intOf i).toNat)
  case atStart => exact ⟨0, s, rfl, Nat.zero_le _, HA, hide (by rw [HTr.out]; exact ⟨HOk.out, rfl⟩), hide (Turned.of_below (Below.refl _ _)), Nat.le_refl _⟩
  case round =>
    obtain ⟨k, s', rfl, hk, HAt, HV, HT, hsz⟩ := hrel
    clear HA HOk
    by_cases hlt : k < 8192
    case neg =>
      have hke : k = 8192 := by omega
      have HE : Hid (someV D n 8192 s = ([], 81, s')) := hide (by
        have := HV.out.2
        rw [show tr - k = 0 by have := HTr.out; omega] at this
        exact this.symm)
      have hlt' : ¬ (k : Int) < 8192 := by omega
      clear HV hke hlt
      go_wp2_with fail
      go_ret2
      rw [HE.out]
      exact ⟨_, rfl, World.ownsRow_nil _ _ _ _, HAt.out, HT.out⟩
    have hlt' : (k : Int) < 8192 := by omega
    obtain ⟨j, hj⟩ : ∃ j, tr - k = j + 1 := ⟨tr - k - 1, by have := HTr.out; omega⟩
    rw [hj] at HV
    have HRd := hide (HRd0.out _ _ _ n HAt.out HV.out.1.1 h1 h2)
    have hfew := HR.out.few n HAt.out
    obtain ⟨b, e, s2, hd⟩ : ∃ b e s2, D.read s' n = (b, e, s2) := ⟨_, _, _, rfl⟩
    rw [hd] at HRd hfew
    simp only at HRd hfew
    have hV1 : e = 22 ∨ e = 23 → someOk D rok n j s2 := by have := HV.out.1.2; rw [hd] at this; exact this
    have hV2 := HV.out.2
    rw [someV_next D n j s' hd] at hV2
    have HV1 := hide hV1
    have HJ := hide hj
    clear HV hd hj hV1
    by_cases ht : e = 22 ∨ e = 23
    · rw [if_pos ht] at hV2
      have HV2 := hide hV2
      have HV3 := hide (HV1.out ht)
      have HTt := hide ht
      clear hV2 ht
      go_wp2_with fail
      refine HRd.out.mono ?_
      rintro _ w1 ⟨ua, uc, rfl, hO1, hA1, hT1⟩
      have HA1 := hide hA1
      have HT1 := hide (HT.out.trans hT1 (fun _ _ e => e))
      have hs1 : w.heap.size ≤ w1.heap.size := Nat.le_trans hsz hT1.size
      clear hO1 hA1 hT1
      go_wp2_with (first | (go_at_call 233; refine (isTry_yes _ _ HTt.out).mono ?_; rintro _ _ ⟨rfl, rfl⟩) | fail)
      go_roundw
      case rel => exact ⟨k + 1, s2, by go_num, by omega, HA1, hide (by rw [show tr - (k + 1) = j by have := HJ.out; omega]; exact ⟨HV3.out, HV2.out⟩), HT1, hs1⟩
      case measure => simp [intOf]; omega
    · rw [if_neg ht] at hV2
      have HTt := hide ht
      clear ht HV1
      by_cases hn : n < b.length
      · rw [if_pos hn] at hV2
        have HV2 := hide hV2
        have hn' : (n : Int) < (b.length : Int) := by omega
        clear hV2 hn
        go_wp2_with fail
        refine HRd.out.mono ?_
        rintro _ w1 ⟨ua, uc, rfl, hO1, hA1, hT1⟩
        have HA1 := hide hA1
        have HT1 := hide (HT.out.trans hT1 (fun _ _ e => e))
        clear hO1 hA1 hT1
        go_wp2_with (first | (go_at_call 233; refine (isTry_no _ _ HTt.out).mono ?_; rintro _ _ ⟨rfl, rfl⟩) | fail)
        go_ret2
        rw [← HV2.out]
        exact ⟨_, rfl, World.ownsRow_nil _ _ _ _, HA1.out, HT1.out⟩
      rw [if_neg hn] at hV2
      have hn' : ¬ (n : Int) < (b.length : Int) := by omega
      by_cases he : e = 0
      · subst he
        rw [if_pos rfl] at hV2
        have HV2 := hide hV2
        clear hV2 hn
        go_wp2_with fail
        refine HRd.out.mono ?_
        rintro _ w1 ⟨ua, uc, rfl, hO1, hA1, hT1⟩
        have HC := hide (bclone_any (.slice ua b.length uc) b w1 hO1 (by omega))
        have HA1 := hide hA1
        have HT1 := hide (HT.out.trans hT1 (fun _ _ e => e))
        clear hO1 hA1 hT1
        go_wp2_with (first | (go_at_call 233; refine (isTry_no _ _ HTt.out).mono ?_; rintro _ _ ⟨rfl, rfl⟩) | fail)
        refine HC.out.mono ?_
        rintro _ w2 ⟨u2, rfl, hO2, hB2⟩
        have HA2 := hide (HR.out.keep HA1.out (fun j _ hj => hB2.block j hj) hB2.size)
        have HT2 := hide (HT1.out.trans (Turned.of_below hB2) (fun _ _ e => e))
        have HO2 := hide (owns_mono hO2 HT1.out.size)
        clear hO2 hB2
        go_wp2
        go_ret2
        rw [← HV2.out]
        exact ⟨_, rfl, HO2.out, HA2.out, HT2.out⟩
      · rw [if_neg he] at hV2
        have HV2 := hide hV2
        have he2 : (e != 0) = true := by simp [he]
        have he3 : (e == 0) = false := by simp [he]
        clear hV2 hn
        go_wp2_with fail
        refine HRd.out.mono ?_
        rintro _ w1 ⟨ua, uc, rfl, hO1, hA1, hT1⟩
        have HA1 := hide hA1
        have HT1 := hide (HT.out.trans hT1 (fun _ _ e => e))
        clear hO1 hA1 hT1
        go_wp2_with (first | (go_at_call 233; refine (isTry_no _ _ HTt.out).mono ?_; rintro _ _ ⟨rfl, rfl⟩) | fail)
        go_ret2
        rw [← HV2.out]
        exact ⟨_, rfl, World.ownsRow_nil _ _ _ _, HA1.out, HT1.out⟩
end Go.Proofs.YtmlfcbbgelkbbaaGreat

/- Put, over any Raw. -/
namespace Go.Proofs.YtmlfcbbgelkbbaaGreat
open Go.RowKit Go.Maps

end Go.Proofs.YtmlfcbbgelkbbaaGreat

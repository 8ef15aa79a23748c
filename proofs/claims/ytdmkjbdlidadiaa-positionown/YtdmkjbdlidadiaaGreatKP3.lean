/- What the proof stands on, part 3: the contracts of the program's calls that it reaches. -/
import Derived.Test.YtdmkjbdlidadiaaGreatKP2
import Derived.Lib.MinMax
import Derived.Maps.OwnSet
import Derived.Sort.KeysCollected
import Derived.BigRegion
import Derived.Sort.Walk0
import Derived.ChangeArms
import Derived.ChangeSlices
import Derived.SizedLaws
import Derived.Deep.Slices
import Derived.ProofKit
import Derived.OpenShut
import Derived.Deep.SlicePairs
import Derived.Test.YtdmkjbdlidadiaaGreatRows
import Derived.Shelf.SlIter.Nil
import Derived.Shelf.SortM.Plain
import Derived.Shelf.SortM.SortNone
import Derived.Ground.GgzProg
import Derived.Ground.SlgmProg
import Derived.Test.YtdmkjbdlidadiaaGreatProg
import Derived.LaidEqlPtr
import Derived.Lib.Builder
import Derived.Deep.RegionHeld3
import Derived.Deep.LoopGhost
import Derived.Laws.CopyOwn
import Derived.Lib.SlBytesConst
/- The reference's kernel: Write. -/
namespace Go.Proofs.YtdmkjbdlidadiaaGreat
open Go.RowKit

end Go.Proofs.YtdmkjbdlidadiaaGreat

/- The reference's kernel: Write, to a terminal and to a pipe. -/
namespace Go.Proofs.YtdmkjbdlidadiaaGreat
open Go.RowKit

end Go.Proofs.YtdmkjbdlidadiaaGreat

/- The reference's kernel: Write, to a terminal. -/
namespace Go.Proofs.YtdmkjbdlidadiaaGreat
open Go.RowKit

end Go.Proofs.YtdmkjbdlidadiaaGreat

/- The reference's kernel: Write, to a file. -/
namespace Go.Proofs.YtdmkjbdlidadiaaGreat
open Go.RowKit

end Go.Proofs.YtdmkjbdlidadiaaGreat

/- The reference's kernel: a new description. -/
namespace Go.Proofs.YtdmkjbdlidadiaaGreat
open Go.RowKit

end Go.Proofs.YtdmkjbdlidadiaaGreat

/- Spoil turns the block of its slice, and no other. -/
namespace Go.Proofs.YtdmkjbdlidadiaaGreat
open Go.RowKit

set_option maxRecDepth 100000 in
set_option maxHeartbeats 1000000 in
theorem Kp_spoil_turn (base : Nat) (v : Value) (n : Nat) (xs : List Value) (w : World) (h : w.ownsRow base 5 1 v n xs) (hx : ∀ u ∈ xs, ∃ c, u = .int .u8 c) (hs : n ≤ maxLen) :
    Calls Tryz.prog 32 #[v] w fun e w' => e = .returned (.tuple #[]) ∧ Turned (fun k => v.ownBlock = some k) w w' := by
  unfold maxLen at hs
  rcases h.2 with ⟨rfl, h0⟩ | ⟨g, cap, cur, rfl, hbg, -⟩
  · go_enter Tryz.func32, Tryz.ntmps32
    go_wp2
    go_loopw [2] (fun i wr => i = .int .i64 0 ∧ wr = w) (fun _ _ => 0)
    case atStart => exact ⟨rfl, rfl⟩
    case round =>
      obtain ⟨rfl, rfl⟩ := hrel
      go_wp2
      go_end0
      exact ⟨rfl, Turned.refl _ _⟩
  · have HO := hide h
    have HX := hide hx
    have hlen : xs.length = n := by have := h.1; omega
    clear h hx
    go_enter Tryz.func32, Tryz.ntmps32
    go_wp2
    go_loopw [2] (fun i wr => ∃ (k : Nat) (ys : List Value), k ≤ n ∧ i = .int .i64 k ∧ ys.length = n ∧ (∀ u ∈ ys, ∃ c, u = .int .u8 c) ∧ wr.ownsRow base 5 1 (.slice (some ⟨g, 0, none⟩) n cap) n ys ∧ Turned (fun k => (Value.slice (some ⟨g, 0, none⟩) n cap).ownBlock = some k) w wr) (fun i _ => n - (intOf i).toNat)
    case atStart => exact ⟨0, xs, Nat.zero_le _, rfl, hlen, HX.out, HO.out, Turned.refl _ _⟩
    case round =>
      clear HO HX hlen
      obtain ⟨k, ys, hk, rfl, hlen, hys, hown, hT⟩ := hrel
      have HT := hide hT
      clear hT
      by_cases hlt : k < n
      · obtain ⟨c, hc⟩ := hys ys[k] (List.getElem_mem _)
        have hcell := hown.cellAt k (by omega)
        rw [List.getElem?_eq_getElem (by omega), hc] at hcell
        have hfr := hown.frozenAt k
        have HY := hide hys
        have HO := hide hown
        have HL := hide hlen
        clear hys hown hc hlen
        go_wp2
        go_roundw
        case rel =>
          obtain ⟨hst, hgr⟩ := HO.out.stored k (Value.int .u8 (bits .xor .u8 c 85))
          refine ⟨k + 1, _, by omega, by go_num, ?_, ?_, hst, HT.out.set (.inl rfl)⟩
          · rw [List.length_set]; exact HL.out
          · intro u hu
            rcases List.mem_or_eq_of_mem_set hu with h | h
            · exact HY.out u h
            · exact ⟨_, h⟩
        case measure => simp [intOf]; omega
      · go_wp2
        go_end0
        exact ⟨rfl, HT.out⟩
theorem Kp_bv_ints (l : List UInt8) : ∀ u ∈ l.map bv, ∃ c, u = .int .u8 c := by
  intro u hu
  obtain ⟨c, _, rfl⟩ := List.mem_map.1 hu
  exact ⟨_, rfl⟩
end Go.Proofs.YtdmkjbdlidadiaaGreat

/- The program's files, terminals and pipes in one notion, each within a set of blocks of its own. -/
namespace Go.Proofs.YtdmkjbdlidadiaaGreat
open Go.RowKit

end Go.Proofs.YtdmkjbdlidadiaaGreat

/- Maps whose values are pointers to blocks: what they hold, as a list of keys and blocks in any order. -/
namespace Go.Proofs.YtdmkjbdlidadiaaGreat
open Go.RowKit Go.Maps

end Go.Proofs.YtdmkjbdlidadiaaGreat

/- The program's kernel: what lies in memory for it; isMade, described. -/
namespace Go.Proofs.YtdmkjbdlidadiaaGreat
open Go.RowKit Go.Maps

inductive PTag where
  | kern
  | fmap
  | tmap
  | omap
  | plan
  | obj (i : Nat)
  | cons (i : Nat)
  | desc (n : Nat)
  | ofile (n : Nat)
end Go.Proofs.YtdmkjbdlidadiaaGreat

/- The program's kernel: described, Kind. -/
namespace Go.Proofs.YtdmkjbdlidadiaaGreat
open Go.RowKit Go.Maps

end Go.Proofs.YtdmkjbdlidadiaaGreat

/- The program's kernel: how what lies in memory turns. -/
namespace Go.Proofs.YtdmkjbdlidadiaaGreat
open Go.RowKit Go.Maps

end Go.Proofs.YtdmkjbdlidadiaaGreat

/- The program's kernel: what is done with an open file, a console, a pipe's end. -/
namespace Go.Proofs.YtdmkjbdlidadiaaGreat
open Go.RowKit Go.Maps

end Go.Proofs.YtdmkjbdlidadiaaGreat

/- The program's kernel: writes to an open file and to a console; what a pipe's end does. -/
namespace Go.Proofs.YtdmkjbdlidadiaaGreat
open Go.RowKit Go.Maps

end Go.Proofs.YtdmkjbdlidadiaaGreat

/- The program's kernel: a console's refusals, reads and writes. -/
namespace Go.Proofs.YtdmkjbdlidadiaaGreat
open Go.RowKit Go.Maps

end Go.Proofs.YtdmkjbdlidadiaaGreat

/- The program's kernel: what a pipe's end does. -/
namespace Go.Proofs.YtdmkjbdlidadiaaGreat
open Go.RowKit Go.Maps

theorem recv_below (w : World) (o : Obj) : Below w.heap.size w (w.alloc o) := (Below.refl _ _).alloc (Nat.le_refl _) _
end Go.Proofs.YtdmkjbdlidadiaaGreat

/- The reference's kernel: desc. -/
namespace Go.Proofs.YtdmkjbdlidadiaaGreat
open Go.RowKit

end Go.Proofs.YtdmkjbdlidadiaaGreat

/- The reference's kernel: one thing more; Pipe. -/
namespace Go.Proofs.YtdmkjbdlidadiaaGreat
open Go.RowKit

end Go.Proofs.YtdmkjbdlidadiaaGreat

/- The reference's kernel: a thing by its name. -/
namespace Go.Proofs.YtdmkjbdlidadiaaGreat
open Go.RowKit

end Go.Proofs.YtdmkjbdlidadiaaGreat

/- The reference's kernel: a thing is put among the names. -/
namespace Go.Proofs.YtdmkjbdlidadiaaGreat
open Go.RowKit

end Go.Proofs.YtdmkjbdlidadiaaGreat

/- The program's kernel: Read. -/
namespace Go.Proofs.YtdmkjbdlidadiaaGreat
open Go.RowKit Go.Maps

end Go.Proofs.YtdmkjbdlidadiaaGreat

/- The program's kernel: what is written to a thing. -/
namespace Go.Proofs.YtdmkjbdlidadiaaGreat
open Go.RowKit Go.Maps

end Go.Proofs.YtdmkjbdlidadiaaGreat

/- The program's kernel: Seek, Keep. -/
namespace Go.Proofs.YtdmkjbdlidadiaaGreat
open Go.RowKit Go.Maps

end Go.Proofs.YtdmkjbdlidadiaaGreat

/- The program's kernel: Keep, Drop. -/
namespace Go.Proofs.YtdmkjbdlidadiaaGreat
open Go.RowKit Go.Maps

end Go.Proofs.YtdmkjbdlidadiaaGreat

/- The program's kernel: Drop, CanRead, CanWrite. -/
namespace Go.Proofs.YtdmkjbdlidadiaaGreat
open Go.RowKit Go.Maps

end Go.Proofs.YtdmkjbdlidadiaaGreat

/- The program's kernel: new things and new descriptions. -/
namespace Go.Proofs.YtdmkjbdlidadiaaGreat
open Go.RowKit Go.Maps

end Go.Proofs.YtdmkjbdlidadiaaGreat

/- The program's kernel: describe. -/
namespace Go.Proofs.YtdmkjbdlidadiaaGreat
open Go.RowKit Go.Maps

end Go.Proofs.YtdmkjbdlidadiaaGreat

/- The program's kernel: new files. -/
namespace Go.Proofs.YtdmkjbdlidadiaaGreat
open Go.RowKit Go.Maps

end Go.Proofs.YtdmkjbdlidadiaaGreat

/- The reference's kernel: Open. -/
namespace Go.Proofs.YtdmkjbdlidadiaaGreat
open Go.RowKit

end Go.Proofs.YtdmkjbdlidadiaaGreat

/- The reference's kernel: Open, of a name that is there. -/
namespace Go.Proofs.YtdmkjbdlidadiaaGreat
open Go.RowKit

end Go.Proofs.YtdmkjbdlidadiaaGreat

/- The program's kernel: thingFor. -/
namespace Go.Proofs.YtdmkjbdlidadiaaGreat
open Go.RowKit Go.Maps

end Go.Proofs.YtdmkjbdlidadiaaGreat

/- The program's kernel: thingFor, walked. -/
namespace Go.Proofs.YtdmkjbdlidadiaaGreat
open Go.RowKit Go.Maps

end Go.Proofs.YtdmkjbdlidadiaaGreat

/- The program's kernel: thingFor, where a file is made. -/
namespace Go.Proofs.YtdmkjbdlidadiaaGreat
open Go.RowKit Go.Maps

end Go.Proofs.YtdmkjbdlidadiaaGreat

/- The program's kernel: nameMayBe, flagsMayBe. -/
namespace Go.Proofs.YtdmkjbdlidadiaaGreat
open Go.RowKit Go.Maps
set_option linter.unusedSimpArgs false

end Go.Proofs.YtdmkjbdlidadiaaGreat

/- The program's kernel: Open. -/
namespace Go.Proofs.YtdmkjbdlidadiaaGreat
open Go.RowKit Go.Maps

end Go.Proofs.YtdmkjbdlidadiaaGreat

/- The program's kernel: give. -/
namespace Go.Proofs.YtdmkjbdlidadiaaGreat
open Go.RowKit Go.Maps

end Go.Proofs.YtdmkjbdlidadiaaGreat

/- The program's kernel: Check. -/
namespace Go.Proofs.YtdmkjbdlidadiaaGreat
open Go.RowKit Go.Maps

end Go.Proofs.YtdmkjbdlidadiaaGreat

/- The program's kernel as it is being made: without its plan. -/
namespace Go.Proofs.YtdmkjbdlidadiaaGreat
open Go.RowKit Go.Maps

end Go.Proofs.YtdmkjbdlidadiaaGreat

/- The program's kernel as it is being made: how it begins, and how files and terminals come to it. -/
namespace Go.Proofs.YtdmkjbdlidadiaaGreat
open Go.RowKit Go.Maps

end Go.Proofs.YtdmkjbdlidadiaaGreat

/- The program's kernel: New. -/
namespace Go.Proofs.YtdmkjbdlidadiaaGreat
open Go.RowKit Go.Maps

end Go.Proofs.YtdmkjbdlidadiaaGreat

/- The reference's kernel: New. -/
namespace Go.Proofs.YtdmkjbdlidadiaaGreat
open Go.RowKit

end Go.Proofs.YtdmkjbdlidadiaaGreat

/- Lines, and steps, that came in as an argument: what a walk is told of them. -/
namespace Go.Proofs.YtdmkjbdlidadiaaGreat
open Go.ChangeShapes Go.WideShapes Go.ChangeAt Go.RowKit Go.Deep

end Go.Proofs.YtdmkjbdlidadiaaGreat

/- Faults, and ints, that came in as an argument: what a walk is told of them. -/
namespace Go.Proofs.YtdmkjbdlidadiaaGreat
open Go.ChangeShapes Go.WideShapes Go.ChangeAt Go.RowKit Go.Deep

end Go.Proofs.YtdmkjbdlidadiaaGreat

/- Files, terminals, steps and setups that came in as an argument: what a walk is told of them, and their sizes. -/
namespace Go.Proofs.YtdmkjbdlidadiaaGreat
open Go.ChangeShapes Go.WideShapes Go.ChangeAt Go.RowKit Go.Deep

end Go.Proofs.YtdmkjbdlidadiaaGreat

/- The program's kernel: Read, walked. -/
namespace Go.Proofs.YtdmkjbdlidadiaaGreat
open Go.RowKit Go.Maps

end Go.Proofs.YtdmkjbdlidadiaaGreat

/- The program's kernel: Pipe. -/
namespace Go.Proofs.YtdmkjbdlidadiaaGreat
open Go.RowKit Go.Maps

end Go.Proofs.YtdmkjbdlidadiaaGreat

/- The program's kernel: Pipe, walked. -/
namespace Go.Proofs.YtdmkjbdlidadiaaGreat
open Go.RowKit Go.Maps

end Go.Proofs.YtdmkjbdlidadiaaGreat

/- The program's kernel: CanRead, CanWrite. -/
namespace Go.Proofs.YtdmkjbdlidadiaaGreat
open Go.RowKit Go.Maps

end Go.Proofs.YtdmkjbdlidadiaaGreat

/- The program's kernel: Write, walked. -/
namespace Go.Proofs.YtdmkjbdlidadiaaGreat
open Go.RowKit Go.Maps

end Go.Proofs.YtdmkjbdlidadiaaGreat

/- The program's kernel within a set of blocks: each call. -/
namespace Go.Proofs.YtdmkjbdlidadiaaGreat
open Go.RowKit Go.Maps

end Go.Proofs.YtdmkjbdlidadiaaGreat

/- A law's setup, copied for the program; how far a kernel's numbers go up by a call. -/
namespace Go.Proofs.YtdmkjbdlidadiaaGreat
open Go.RowKit Go.Maps

end Go.Proofs.YtdmkjbdlidadiaaGreat

/- Contracts of Go's library on the keys of a map, sorted, at this dump, laid by the kit's own command. -/
namespace Go.Proofs
open Go.RowKit Go.Maps Go.Sort Go.Shelf
def Tryz.keys178_ren : Go.Shelf.Ren := ⟨fun | 7 => 178 | 10 => 227 | n => n, fun | 23 => 97 | 26 => 9 | 3 => 105 | 28 => 289 | 0 => 0 | 27 => 288 | 33 => 118 | 4 => 4 | n => n, fun | n => n⟩
theorem Tryz.keys178 : Go.Proofs.SlLaysZ.n7 Tryz.prog Tryz.keys178_ren := {
  mixed := by kernel_rfl
  f7 := ⟨Tryz.f178.name, by decide, Tryz.func178.trans (congrArg some (by kernel_rfl))⟩
  f10 := ⟨Tryz.f227.name, by decide, Tryz.func227.trans (congrArg some (by kernel_rfl))⟩
  t0 := Tryz.underlying0
  a0 := Tryz.isAgg0
  z0 := Tryz.sizeOf0
  v0 := Tryz.zeroValue0
  t4 := Tryz.underlying4
  a4 := Tryz.isAgg4
  z4 := Tryz.sizeOf4
  v4 := Tryz.zeroValue4
  t23 := Tryz.underlying97
  a23 := Tryz.isAgg97
  z23 := Tryz.sizeOf97
  v23 := Tryz.zeroValue97
  t26 := Tryz.underlying9
  a26 := Tryz.isAgg9
  z26 := Tryz.sizeOf9
  v26 := Tryz.zeroValue9
  t27 := Tryz.underlying288
  a27 := Tryz.isAgg288
  z27 := Tryz.sizeOf288
  v27 := Tryz.zeroValue288
  t28 := Tryz.underlying289
  a28 := Tryz.isAgg289
  z28 := Tryz.sizeOf289
  v28 := Tryz.zeroValue289
  t33 := Tryz.underlying118
  a33 := Tryz.isAgg118
  z33 := Tryz.sizeOf118
  v33 := Tryz.zeroValue118 }
def Tryz.sorted177_ren : Go.Shelf.Ren := ⟨fun | 6 => 177 | 8 => 225 | 9 => 226 | 11 => 242 | 13 => 244 | 12 => 243 | 23 => 260 | 24 => 261 | 14 => 251 | 15 => 252 | 16 => 253 | 17 => 254 | 18 => 255 | 19 => 256 | 20 => 257 | 21 => 258 | 22 => 259 | 25 => 279 | 26 => 280 | 27 => 281 | 28 => 282 | 29 => 283 | 30 => 284 | 31 => 285 | n => n, fun | 26 => 9 | 28 => 289 | 24 => 117 | 0 => 0 | 3 => 3 | 37 => 355 | 48 => 375 | 50 => 377 | 4 => 4 | 40 => 368 | 39 => 367 | 45 => 216 | 5 => 5 | 9 => 9 | 51 => 378 | 55 => 333 | 57 => 383 | 58 => 121 | 33 => 118 | n => n, fun | n => n⟩
theorem Tryz.sorted177 : Go.Proofs.SlLaysZ.n6 Tryz.prog Tryz.sorted177_ren := {
  mixed := by kernel_rfl
  f6 := ⟨Tryz.f177.name, by decide, Tryz.func177.trans (congrArg some (by kernel_rfl))⟩
  f8 := ⟨Tryz.f225.name, by decide, Tryz.func225.trans (congrArg some (by kernel_rfl))⟩
  f11 := ⟨Tryz.f242.name, by decide, Tryz.func242.trans (congrArg some (by kernel_rfl))⟩
  t0 := Tryz.underlying0
  a0 := Tryz.isAgg0
  z0 := Tryz.sizeOf0
  v0 := Tryz.zeroValue0
  t24 := Tryz.underlying117
  a24 := Tryz.isAgg117
  z24 := Tryz.sizeOf117
  v24 := Tryz.zeroValue117
  t26 := Tryz.underlying9
  a26 := Tryz.isAgg9
  z26 := Tryz.sizeOf9
  v26 := Tryz.zeroValue9
  t28 := Tryz.underlying289
  a28 := Tryz.isAgg289
  z28 := Tryz.sizeOf289
  v28 := Tryz.zeroValue289
  i26 := by kernel_rfl }
def Tryz.sort226_ren : Go.Shelf.Ren := ⟨fun | 6 => 226 | 8 => 244 | 9 => 243 | 19 => 260 | 20 => 261 | 21 => 251 | 22 => 252 | 23 => 253 | 24 => 254 | 25 => 255 | 26 => 256 | 27 => 257 | 28 => 258 | 29 => 259 | 36 => 279 | 31 => 280 | 32 => 281 | 37 => 282 | 38 => 283 | 39 => 284 | 41 => 285 | n => n, fun | 27 => 117 | 29 => 9 | 3 => 3 | 32 => 355 | 26 => 117 | 0 => 0 | 44 => 375 | 46 => 377 | 4 => 4 | 36 => 368 | 35 => 367 | 41 => 216 | 5 => 5 | 9 => 9 | 53 => 378 | 57 => 333 | 63 => 383 | 64 => 121 | n => n, fun | n => n⟩
theorem Tryz.sort226 : Go.Proofs.SlLaysM.n6 Tryz.prog Tryz.sort226_ren := {
  mixed := by kernel_rfl
  f6 := ⟨Tryz.f226.name, by decide, Tryz.func226.trans (congrArg some (by kernel_rfl))⟩
  f8 := Tryz.func244.trans (congrArg some (by kernel_rfl))
  f9 := ⟨Tryz.f243.name, by decide, Tryz.func243.trans (congrArg some (by kernel_rfl))⟩
  f19 := Tryz.func260.trans (congrArg some (by kernel_rfl))
  f20 := Tryz.func261.trans (congrArg some (by kernel_rfl))
  f21 := ⟨Tryz.f251.name, by decide, Tryz.func251.trans (congrArg some (by kernel_rfl))⟩
  f22 := ⟨Tryz.f252.name, by decide, Tryz.func252.trans (congrArg some (by kernel_rfl))⟩
  f23 := ⟨Tryz.f253.name, by decide, Tryz.func253.trans (congrArg some (by kernel_rfl))⟩
  f24 := ⟨Tryz.f254.name, by decide, Tryz.func254.trans (congrArg some (by kernel_rfl))⟩
  f25 := ⟨Tryz.f255.name, by decide, Tryz.func255.trans (congrArg some (by kernel_rfl))⟩
  f26 := ⟨Tryz.f256.name, by decide, Tryz.func256.trans (congrArg some (by kernel_rfl))⟩
  f27 := ⟨Tryz.f257.name, by decide, Tryz.func257.trans (congrArg some (by kernel_rfl))⟩
  f28 := ⟨Tryz.f258.name, by decide, Tryz.func258.trans (congrArg some (by kernel_rfl))⟩
  f29 := ⟨Tryz.f259.name, by decide, Tryz.func259.trans (congrArg some (by kernel_rfl))⟩
  f31 := Tryz.func280.trans (congrArg some (by kernel_rfl))
  f32 := Tryz.func281.trans (congrArg some (by kernel_rfl))
  f36 := ⟨Tryz.f279.name, by decide, Tryz.func279.trans (congrArg some (by kernel_rfl))⟩
  f37 := ⟨Tryz.f282.name, by decide, Tryz.func282.trans (congrArg some (by kernel_rfl))⟩
  f38 := ⟨Tryz.f283.name, by decide, Tryz.func283.trans (congrArg some (by kernel_rfl))⟩
  f39 := ⟨Tryz.f284.name, by decide, Tryz.func284.trans (congrArg some (by kernel_rfl))⟩
  f41 := ⟨Tryz.f285.name, by decide, Tryz.func285.trans (congrArg some (by kernel_rfl))⟩
  t0 := Tryz.underlying0
  a0 := Tryz.isAgg0
  z0 := Tryz.sizeOf0
  v0 := Tryz.zeroValue0
  t3 := Tryz.underlying3
  a3 := Tryz.isAgg3
  z3 := Tryz.sizeOf3
  v3 := Tryz.zeroValue3
  t4 := Tryz.underlying4
  a4 := Tryz.isAgg4
  z4 := Tryz.sizeOf4
  v4 := Tryz.zeroValue4
  t5 := Tryz.underlying5
  a5 := Tryz.isAgg5
  z5 := Tryz.sizeOf5
  v5 := Tryz.zeroValue5
  t9 := Tryz.underlying9
  a9 := Tryz.isAgg9
  z9 := Tryz.sizeOf9
  v9 := Tryz.zeroValue9
  t26 := Tryz.underlying117
  a26 := Tryz.isAgg117
  z26 := Tryz.sizeOf117
  v26 := Tryz.zeroValue117
  t27 := Tryz.underlying117
  a27 := Tryz.isAgg117
  z27 := Tryz.sizeOf117
  v27 := Tryz.zeroValue117
  t29 := Tryz.underlying9
  a29 := Tryz.isAgg9
  z29 := Tryz.sizeOf9
  v29 := Tryz.zeroValue9
  t32 := Tryz.underlying355
  a32 := Tryz.isAgg355
  z32 := Tryz.sizeOf355
  v32 := Tryz.zeroValue355
  t35 := Tryz.underlying367
  a35 := Tryz.isAgg367
  z35 := Tryz.sizeOf367
  v35 := Tryz.zeroValue367
  t36 := Tryz.underlying368
  a36 := Tryz.isAgg368
  z36 := Tryz.sizeOf368
  v36 := Tryz.zeroValue368
  t41 := Tryz.underlying216
  a41 := Tryz.isAgg216
  z41 := Tryz.sizeOf216
  v41 := Tryz.zeroValue216
  t44 := Tryz.underlying375
  a44 := Tryz.isAgg375
  z44 := Tryz.sizeOf375
  v44 := Tryz.zeroValue375
  t46 := Tryz.underlying377
  a46 := Tryz.isAgg377
  z46 := Tryz.sizeOf377
  v46 := Tryz.zeroValue377
  t53 := Tryz.underlying378
  a53 := Tryz.isAgg378
  z53 := Tryz.sizeOf378
  v53 := Tryz.zeroValue378
  t57 := Tryz.underlying333
  a57 := Tryz.isAgg333
  z57 := Tryz.sizeOf333
  v57 := Tryz.zeroValue333
  t63 := Tryz.underlying383
  a63 := Tryz.isAgg383
  z63 := Tryz.sizeOf383
  v63 := Tryz.zeroValue383
  t64 := Tryz.underlying121
  a64 := Tryz.isAgg121
  z64 := Tryz.sizeOf121
  v64 := Tryz.zeroValue121 }

theorem Tryz.sorts177 (m : Nat) : AnyZ.SortsIn Tryz.prog Tryz.sorted177_ren Fence.wide m :=
  ⟨fun blk off cap ss W hH hblk hsz => callsIn_wide.2 (AnyM.slices_Sort_string Tryz.sort226 blk off cap ss W hH hblk hsz),
   fun p cap W => callsIn_wide.2 (AnyM.slices_Sort_string_none Tryz.sort226 p cap W)⟩
theorem Tryz.maps_Keys_178 (mb : Option Nat) (W : World) : CallsIn Fence.wide 5 Tryz.prog 178 #[.map mb] W fun e w' => e = .returned (.func (.func 227) #[] #[.pointer (some ⟨W.heap.size, 0, none⟩)]) ∧ w' = W.alloc (.cells #[.map mb] 97) :=
  AnyZ.keys_in Tryz.keys178 Fence.wide 5 trivial rfl mb W
set_option maxHeartbeats 1000000 in
theorem Tryz.slices_Sorted_keys_177_178 {H : Type} (b nn : Nat) (D0 : DataW H) (R : Value → Option (DataW H × List MemPlace)) (w : World) (hown : w.ownsMap Tryz.prog 9 R b nn D0) (hmax : Maps.size D0 ≤ maxLen) (hbytes : Maps.size D0 * 16 ≤ 140737488355328) :
    CallsIn Fence.wide 5 Tryz.prog 177 #[.func (.func 227) #[] #[.pointer (some ⟨w.heap.size, 0, none⟩)]] (w.alloc (.cells #[.map (some b)] 97)) fun e w' => ∃ (v : Value) (ss : List (List UInt8)), e = .returned v ∧ ss.Perm (strKeys D0) ∧
      w'.ownsRow (w.alloc (.cells #[.map (some b)] 97)).heap.size 9 1 v ss.length ((ss.mergeSort (fun x y => decide (x ≤ y))).map encStr) ∧ (v = .slice none 0 0 ↔ ss = []) ∧ Below (w.alloc (.cells #[.map (some b)] 97)).heap.size (w.alloc (.cells #[.map (some b)] 97)) w' := by
  have hbl := hown.lt
  have hseq : SeqGives Fence.wide 2 Tryz.prog 227 #[.pointer (some ⟨w.heap.size, 0, none⟩)] encStr (fun ss => ss.Perm (strKeys D0)) (Maps.size D0) (w.alloc (.cells #[.map (some b)] 97)) :=
    AnyZ.keys_gives (ρ := Tryz.keys178_ren) { Tryz.keys178 with } Fence.wide _ trivial rfl (by omega) w.heap.size b nn D0 _ (by simp) (by simp) (by
      obtain ⟨es, clock, hb, Ft, hs, hD⟩ := hown
      exact ⟨es, clock, (Below.heap_alloc _ _ b hbl).trans hb, Ft, hs, hD⟩)
  exact AnyZ.sorted_in Tryz.sorted177 Fence.wide 5 trivial trivial trivial trivial rfl (by omega) (Tryz.sorts177 _) (enters_of Tryz.func226 (by kernel_rfl) rfl) 227 #[.pointer (some ⟨w.heap.size, 0, none⟩)] trivial (enters_of Tryz.func227 (by kernel_rfl) rfl) _ _ hmax hbytes _ hseq
set_option maxHeartbeats 1000000 in
theorem Tryz.slices_Sorted_keys_nil_177_178 (w : World) :
    CallsIn Fence.wide 5 Tryz.prog 177 #[.func (.func 227) #[] #[.pointer (some ⟨w.heap.size, 0, none⟩)]] (w.alloc (.cells #[.map none] 97)) fun e w' => ∃ (v : Value) (ss : List (List UInt8)), e = .returned v ∧ ss = [] ∧
      w'.ownsRow (w.alloc (.cells #[.map none] 97)).heap.size 9 1 v ss.length ((ss.mergeSort (fun x y => decide (x ≤ y))).map encStr) ∧ (v = .slice none 0 0 ↔ ss = []) ∧ Below (w.alloc (.cells #[.map none] 97)).heap.size (w.alloc (.cells #[.map none] 97)) w' := by
  have hseq : SeqGives Fence.wide 2 Tryz.prog 227 #[.pointer (some ⟨w.heap.size, 0, none⟩)] encStr (fun ss : List (List UInt8) => ss = []) 0 (w.alloc (.cells #[.map none] 97)) :=
    AnyZ.keys_gives_nil (ρ := Tryz.keys178_ren) { Tryz.keys178 with } Fence.wide _ trivial rfl w.heap.size _ (by simp) (by simp)
  exact AnyZ.sorted_in Tryz.sorted177 Fence.wide 5 trivial trivial trivial trivial rfl (by omega) (Tryz.sorts177 _) (enters_of Tryz.func226 (by kernel_rfl) rfl) 227 #[.pointer (some ⟨w.heap.size, 0, none⟩)] trivial (enters_of Tryz.func227 (by kernel_rfl) rfl) _ 0 (Nat.zero_le _) (by omega) _ hseq
end Go.Proofs

/- Files: all files by name. -/
namespace Go.Proofs.YtdmkjbdlidadiaaGreat
open Go.RowKit Go.Maps

end Go.Proofs.YtdmkjbdlidadiaaGreat

/- The reference's kernel: Files. -/
namespace Go.Proofs.YtdmkjbdlidadiaaGreat
open Go.RowKit

end Go.Proofs.YtdmkjbdlidadiaaGreat

/- The reference's kernel: Screens. -/
namespace Go.Proofs.YtdmkjbdlidadiaaGreat
open Go.RowKit

end Go.Proofs.YtdmkjbdlidadiaaGreat

/- The reference's kernel: Drop. -/
namespace Go.Proofs.YtdmkjbdlidadiaaGreat
open Go.RowKit

end Go.Proofs.YtdmkjbdlidadiaaGreat

/- The page's kernel of a setup. -/
namespace Go.Proofs.YtdmkjbdlidadiaaGreat
open Go.RowKit

end Go.Proofs.YtdmkjbdlidadiaaGreat

/- The reference's kernel within a set of blocks: what each call leaves of it, and of all else. -/
namespace Go.Proofs.YtdmkjbdlidadiaaGreat
open Go.RowKit

end Go.Proofs.YtdmkjbdlidadiaaGreat

/- The law's examples. -/
namespace Go.Proofs.YtdmkjbdlidadiaaGreat
open Go.RowKit Go.Maps

end Go.Proofs.YtdmkjbdlidadiaaGreat

/- KernPlace: the kernel's states, as values. -/
namespace Go.Proofs.YtdmkjbdlidadiaaGreat
open Go.RowKit Go.Maps

end Go.Proofs.YtdmkjbdlidadiaaGreat

/- KernSays: what a read, a write and the questions ahead of them say, as values. No program. -/
namespace Go.Proofs.YtdmkjbdlidadiaaGreat
open Go.RowKit

end Go.Proofs.YtdmkjbdlidadiaaGreat

/- KernPieces: the kernel's states, as values. -/
namespace Go.Proofs.YtdmkjbdlidadiaaGreat
open Go.RowKit Go.Maps

end Go.Proofs.YtdmkjbdlidadiaaGreat

/- Handles: their calls, those of no kernel, and two kernels side by side. -/
namespace Go.Proofs.YtdmkjbdlidadiaaGreat
open Go.RowKit Go.Maps

end Go.Proofs.YtdmkjbdlidadiaaGreat

/- The program's kernel and the reference's, side by side. -/
namespace Go.Proofs.YtdmkjbdlidadiaaGreat
open Go.RowKit

end Go.Proofs.YtdmkjbdlidadiaaGreat

/- KernPlays: a call by both. -/
namespace Go.Proofs.YtdmkjbdlidadiaaGreat
open Go.RowKit Go.Maps

end Go.Proofs.YtdmkjbdlidadiaaGreat

/- KernPlays: Read and Write by both. -/
namespace Go.Proofs.YtdmkjbdlidadiaaGreat
open Go.RowKit Go.Maps

end Go.Proofs.YtdmkjbdlidadiaaGreat

/- The reference's memories: Read, Write, Seek. -/
namespace Go.Proofs.YtdmkjbdlidadiaaGreat
open Go.RowKit

def RMStep (w : World) (O : Nat → Prop) (g : Nat) (kind : Int) (S : MS) (w' : World) : Prop := ∃ O', RMemAt w' O' g kind S ∧ (∀ k, O' k → O k ∨ w.heap.size ≤ k) ∧ Turned O w w'
theorem RMemAt.tick {W : World} {O : Nat → Prop} {g : Nat} {kind : Int} {S : MS} {a : Option Addr} {c : Nat} {m : Int} (h1 : W.heap[g]? = some (.cells (rmc kind (.slice a S.l.length c) S.room S.pl (.slice none 0 0) (.slice none 0 0) m) 196))
    (hr : W.ownsRow 0 5 1 (.slice a S.l.length c) S.l.length (S.l.map bv)) (hb : ∀ k, (Value.slice a S.l.length c).ownBlock = some k → O k ∧ k ≠ g) (m' : Int) :
    (W.setCell ⟨g, 8, none⟩ (.int .i64 m')).heap[g]? = some (.cells (rmc kind (.slice a S.l.length c) S.room S.pl (.slice none 0 0) (.slice none 0 0) m') 196) ∧ (W.setCell ⟨g, 8, none⟩ (.int .i64 m')).ownsRow 0 5 1 (.slice a S.l.length c) S.l.length (S.l.map bv) ∧ Turned (fun k => k = g) W (W.setCell ⟨g, 8, none⟩ (.int .i64 m')) :=
  have hT : Turned (fun k => k = g) W (W.setCell ⟨g, 8, none⟩ (.int .i64 m')) := Turned.set (S := fun k => k = g) (Turned.refl _ _) (.inl rfl)
  ⟨Go.heap_setCell_same W g 8 _ _ (.int .i64 m') h1, owns_turned hr hT (fun k e => (hb k e).2), hT⟩
set_option maxRecDepth 100000 in
set_option maxHeartbeats 2000000 in
theorem rrmread_any (O : Nat → Prop) (g : Nat) (kind n : Int) (S : MS) (w : World) (h : RMemAt w O g kind S) (hk : kind = 1 ∨ kind = 2 ∨ kind = 3) :
    Calls Tryz.prog 234 #[.pointer (some ⟨g, 0, none⟩), .int .i64 n] w fun e w' => ∃ v, e = .returned (.tuple #[v, .int .i64 (S.read n).2.1]) ∧ Bys w' v (S.read n).1 ∧ RMemAt w' O g kind (S.read n).2.2 ∧ Turned O w w' := by
  obtain ⟨a, c, m, h1, hr, hb, og, z1, z2, z3⟩ := h
  have hk5 : (kind == 5) = false := by rcases hk with rfl | rfl | rfl <;> rfl
  have hk4 : (kind == 4) = false := by rcases hk with rfl | rfl | rfl <;> rfl
  have q0 : w.cell? ⟨g, 0, none⟩ = some (.int .i64 kind) := cell_of_row w g 0 _ _ _ h1
  have q8 : w.cell? ⟨g, 8, none⟩ = some (.int .i64 m) := cell_of_row w g 8 _ _ _ h1
  have s8 := frozen_of_row w g 8 _ _ h1
  have HT := hide (RMemAt.tick h1 hr hb (wrap64 (m + 1)))
  have r0 : ∀ c', (w.setCell ⟨g, 8, none⟩ (.int .i64 c')).cell? ⟨g, 0, none⟩ = some (.int .i64 kind) := fun c' => cell_of_row _ g 0 _ _ _ (RMemAt.tick h1 hr hb c').1
  have r1 : ∀ c', (w.setCell ⟨g, 8, none⟩ (.int .i64 c')).cell? ⟨g, 1, none⟩ = some (.slice a S.l.length c) := fun c' => cell_of_row _ g 1 _ _ _ (RMemAt.tick h1 hr hb c').1
  have r3 : ∀ c', (w.setCell ⟨g, 8, none⟩ (.int .i64 c')).cell? ⟨g, 3, none⟩ = some (.int .i64 S.pl) := fun c' => cell_of_row _ g 3 _ _ _ (RMemAt.tick h1 hr hb c').1
  have HB := hide hb
  clear h1 hr hb hk
  unfold MS.read
  by_cases hR : inR n = true
  · rw [if_pos hR]
    obtain ⟨N, rfl⟩ : ∃ N : Nat, n = N := ⟨n.toNat, by simp [inR] at hR; omega⟩
    have hN : N ≤ 1048576 := by simp [inR] at hR; omega
    clear hR
    simp only [Int.toNat_natCast]
    rcases Nat.eq_zero_or_pos N with rfl | hp
    · have hp0 : piece S.l S.pl 0 = [] := by simp [piece]
      rw [hp0]
      go_enter Tryz.func234, Tryz.ntmps234
      go_wp2
      go_ret2
      exact ⟨_, rfl, .inl ⟨rfl, rfl⟩, ⟨a, c, _, HT.out.1, HT.out.2.1, HB.out, og, z1, z2, z3⟩, HT.out.2.2.mono (fun k e => by rw [e]; exact og)⟩
    · have e1 : ¬ (N : Int) < 0 := by omega
      have e2 : ¬ 1048576 < (N : Int) := by omega
      have e3 : ((N : Int) == 0) = false := by simp; omega
      have HP := hide (fun W hW => piece_any 0 (.slice a S.l.length c) S.l S.pl N W hW (by omega) (by omega) hN)
      have hpl : S.l.length < S.pl ∨ S.pl + (piece S.l S.pl N).length ≤ S.l.length := by have := piece_len S.l S.pl N; omega
      have hpz : S.pl + (piece S.l S.pl N).length ≤ S.room := by have := piece_len S.l S.pl N; omega
      clear hpl
      generalize piece S.l S.pl N = Y at *
      go_enter Tryz.func234, Tryz.ntmps234
      go_wp2_with fail
      have k1 := r1 (wrap64 (m + 1))
      have k3 := r3 (wrap64 (m + 1))
      clear r0 r1 r3 q0 q8 s8
      generalize w.setCell ⟨g, 8, none⟩ (.int .i64 (wrap64 (m + 1))) = wa at *
      have hgl : g < wa.heap.size := World.block_lt_of_cell? wa _ k1
      have HC := hide (HP.out wa.drew (owns_below HT.out.2.1 (Below.refl _ _).drew))
      go_region_held3 (fun w' => w'.cell? ⟨g, 1, none⟩ = some (.slice a S.l.length c) ∧ w'.cell? ⟨g, 3, none⟩ = some (.int .i64 S.pl))
        (first | exact K2 | exact ⟨k1, k3⟩ | go_keep)
        (first
          | (go_at_call 166; refine HC.out.mono ?_; rintro _ w2 ⟨v, rfl, hown, hB2⟩; obtain ⟨va, vc, rfl⟩ := owns_slice hown; have K2 : w2.cell? ⟨g, 1, none⟩ = some (.slice a S.l.length c) ∧ w2.cell? ⟨g, 3, none⟩ = some (.int .i64 S.pl) := ⟨(hB2.cell (p := ⟨g, 1, none⟩) hgl).trans k1, (hB2.cell (p := ⟨g, 3, none⟩) hgl).trans k3⟩)
          | fail)
      have g2 := (hB2.block g hgl).trans HT.out.1
      have f3 := frozen_of_row w2 g 3 _ _ g2
      obtain ⟨K21, K23⟩ := K2
      have HG2 := hide g2
      have HO := hide hown
      have HB2 := hide hB2
      clear hown hB2 g2 k1 k3
      go_wp2
      go_ret2
      have hT5 : Turned (fun k => k = g) w2 (w2.setCell ⟨g, 3, none⟩ (.int .i64 ((S.pl : Int) + (Y.length : Int)))) := Turned.set (S := fun k => k = g) (Turned.refl _ _) (.inl rfl)
      have hTw : Turned (fun k => k = g) w w2 := HT.out.2.2.trans (Turned.of_below ((Below.refl _ wa).drew.trans HB2.out)) (fun _ _ e => e)
      have h5 := Go.heap_setCell_same w2 g 3 _ _ (.int .i64 ((S.pl : Int) + (Y.length : Int))) HG2.out
      refine ⟨_, rfl, (Bys.of_owns HO.out).turned hT5 (fun k e _ e' => ?_), ⟨a, c, wrap64 (m + 1), ?_, owns_turned (owns_below (owns_below HT.out.2.1 (Below.refl _ _).drew) HB2.out) hT5 (fun k e => (HB.out k e).2), HB.out, og, z1, ?_, z3⟩, (hTw.trans hT5 (fun _ _ e => e)).mono (fun k e => by rw [e]; exact og)⟩
      · have := (HO.out.lt k e).1
        have e2 : k = g := e'
        have : wa.heap.size ≤ k := this
        omega
      · rw [h5]; rfl
      · exact hpz
  · rw [if_neg hR]
    rcases (show n < 0 ∨ (¬ n < 0 ∧ 1048576 < n) by simp [inR] at hR; omega) with e1 | ⟨e1, e2⟩
    all_goals
      clear hR
      go_enter Tryz.func234, Tryz.ntmps234
      go_wp2
      go_ret2
      exact ⟨_, rfl, .inl ⟨rfl, rfl⟩, ⟨a, c, _, HT.out.1, HT.out.2.1, HB.out, og, z1, z2, z3⟩, HT.out.2.2.mono (fun k e => by rw [e]; exact og)⟩
set_option maxRecDepth 100000 in
set_option maxHeartbeats 2000000 in
theorem rrmseek_any (O : Nat → Prop) (g : Nat) (kind off wh : Int) (S : MS) (w : World) (h : RMemAt w O g kind S) (hk : kind = 1 ∨ kind = 2 ∨ kind = 3) :
    Calls Tryz.prog 101 #[.pointer (some ⟨g, 0, none⟩), .int .i64 off, .int .i64 wh] w fun e w' => e = .returned (.tuple #[.int .i64 (S.seek off wh).1, .int .i64 (S.seek off wh).2.1]) ∧ RMemAt w' O g kind (S.seek off wh).2.2 ∧ Turned O w w' := by
  obtain ⟨a, c, m, h1, hr, hb, og, z1, z2, z3⟩ := h
  have hk5 : (kind == 5) = false := by rcases hk with rfl | rfl | rfl <;> rfl
  have hk4 : (kind == 4) = false := by rcases hk with rfl | rfl | rfl <;> rfl
  have q0 : w.cell? ⟨g, 0, none⟩ = some (.int .i64 kind) := cell_of_row w g 0 _ _ _ h1
  have q1 : w.cell? ⟨g, 1, none⟩ = some (.slice a S.l.length c) := cell_of_row w g 1 _ _ _ h1
  have q2 : w.cell? ⟨g, 2, none⟩ = some (.int .i64 S.room) := cell_of_row w g 2 _ _ _ h1
  have q3 : w.cell? ⟨g, 3, none⟩ = some (.int .i64 S.pl) := cell_of_row w g 3 _ _ _ h1
  have s3 := frozen_of_row w g 3 _ _ h1
  have HH := hide (And.intro h1 (And.intro hr hb))
  clear h1 hr hb hk
  unfold MS.seek
  by_cases hwh : wh < 0 ∨ 2 < wh
  · rw [if_pos hwh]
    rcases (show wh < 0 ∨ (¬ wh < 0 ∧ 2 < wh) by omega) with e1 | ⟨e1, e2⟩
    all_goals
      clear hwh
      go_enter Tryz.func101, Tryz.ntmps101
      go_wp2
      go_ret2
      exact ⟨rfl, ⟨a, c, m, HH.out.1, HH.out.2.1, HH.out.2.2, og, z1, z2, z3⟩, Turned.refl _ _⟩
  rw [if_neg hwh]
  have hF : S.from wh ≤ 1048576 := by unfold MS.from; split; omega; split <;> omega
  have HM := hide (fun W => move_any (S.from wh) off S.room W (by omega) (by omega) (by omega) (by omega))
  have HFr : Hid (S.from wh = if wh = 1 then S.pl else if wh = 2 then S.l.length else 0) := hide rfl
  generalize S.from wh = F at *
  by_cases hbad : off < -(F : Int) ∨ (S.room : Int) - (F : Int) < off
  · rw [if_pos hbad]
    rw [if_neg (by omega)] at HM
    clear hbad
    rcases (show wh = 0 ∨ wh = 1 ∨ wh = 2 by omega) with rfl | rfl | rfl
    all_goals
      have hf := HFr.out
      simp at hf
      subst hf
      clear hwh HFr
      try simp only [Int.natCast_zero] at HM
      go_enter Tryz.func101, Tryz.ntmps101
      go_wp2_with fail
      refine (HM.out _).mono ?_
      rintro _ _ ⟨rfl, rfl⟩
      go_wp2
      go_ret2
      exact ⟨rfl, ⟨a, c, m, HH.out.1, HH.out.2.1, HH.out.2.2, og, z1, z2, z3⟩, Turned.refl _ _⟩
  rw [if_neg hbad]
  rw [if_pos (by omega)] at HM
  obtain ⟨T, hT⟩ : ∃ T : Nat, (F : Int) + off = T := ⟨((F : Int) + off).toNat, by omega⟩
  rw [hT] at HM
  simp only [hT, Int.toNat_natCast]
  have hTr : T ≤ S.room := by omega
  clear hbad hT
  have hG : w.heap[g]? = some (.cells (rmc kind (.slice a S.l.length c) S.room S.pl (.slice none 0 0) (.slice none 0 0) m) 196) := HH.out.1
  have h5 := Go.heap_setCell_same w g 3 _ _ (.int .i64 (T : Int)) hG
  have hT5 : Turned (fun k => k = g) w (w.setCell ⟨g, 3, none⟩ (.int .i64 (T : Int))) := Turned.set (S := fun k => k = g) (Turned.refl _ _) (.inl rfl)
  have HR : Hid (RMemAt (w.setCell ⟨g, 3, none⟩ (.int .i64 (T : Int))) O g kind ⟨S.l, S.room, T⟩ ∧ Turned O w (w.setCell ⟨g, 3, none⟩ (.int .i64 (T : Int)))) := hide ⟨⟨a, c, m, h5, owns_turned HH.out.2.1 hT5 (fun k e => (HH.out.2.2 k e).2), HH.out.2.2, og, z1, hTr, z3⟩, hT5.mono (fun k e => by rw [e]; exact og)⟩
  clear hG h5 hT5
  rcases (show wh = 0 ∨ wh = 1 ∨ wh = 2 by omega) with rfl | rfl | rfl
  all_goals
    have hf := HFr.out
    simp at hf
    subst hf
    clear hwh HFr
    try simp only [Int.natCast_zero] at HM
    go_enter Tryz.func101, Tryz.ntmps101
    go_wp2_with fail
    refine (HM.out _).mono ?_
    rintro _ _ ⟨rfl, rfl⟩
    go_wp2
    go_ret2
    exact ⟨rfl, HR.out.1, HR.out.2⟩
end Go.Proofs.YtdmkjbdlidadiaaGreat

/- The reference's memories: Write. -/
namespace Go.Proofs.YtdmkjbdlidadiaaGreat
open Go.RowKit

theorem rrm_lay (O : Nat → Prop) (g : Nat) (kind : Int) (S : MS) (x : List UInt8) (ba : Option Addr) (bc mm : Nat) (a : Option Addr) (c : Nat) (mc : Int) (w wa : World) (hG : wa.heap[g]? = some (.cells (rmc kind (.slice a S.l.length c) S.room S.pl (.slice none 0 0) (.slice none 0 0) mc) 196))
    (hr : wa.ownsRow 0 5 1 (.slice a S.l.length c) S.l.length (S.l.map bv)) (hb : ∀ k, (Value.slice a S.l.length c).ownBlock = some k → O k ∧ k ≠ g) (og : O g) (hT : Turned (fun k => k = g) w wa) (z1 : S.l.length ≤ S.room) (z3 : S.room ≤ 1048576)
    (hx : Bys w (.slice ba x.length bc) x) (hap : ∀ k, (Value.slice ba x.length bc).ownBlock = some k → ¬ O k) (h0 : 0 < x.length) (hm0 : 0 < mm) (hm1 : mm ≤ x.length) (hm2 : S.pl + mm ≤ S.room) (W : World) (hW : Below wa.heap.size wa W) :
    Calls Tryz.prog 221 #[.slice a S.l.length c, .int .i64 S.pl, .slice ba mm bc] W fun e w2 => ∃ ua uc, e = .returned (.slice ua (lay S.l S.pl (x.take mm)).length uc) ∧ (w2.cell? ⟨g, 1, none⟩ = some (.slice a S.l.length c) ∧ w2.cell? ⟨g, 3, none⟩ = some (.int .i64 S.pl) ∧ w2.frozen? ⟨g, 1, none⟩ = false ∧ (w2.setCell ⟨g, 1, none⟩ (.slice ua (lay S.l S.pl (x.take mm)).length uc)).cell? ⟨g, 3, none⟩ = some (.int .i64 S.pl) ∧ (w2.setCell ⟨g, 1, none⟩ (.slice ua (lay S.l S.pl (x.take mm)).length uc)).frozen? ⟨g, 3, none⟩ = false) ∧
      Hid (RMStep w O g kind ⟨lay S.l S.pl (x.take mm), S.room, S.pl + mm⟩ ((w2.setCell ⟨g, 1, none⟩ (.slice ua (lay S.l S.pl (x.take mm)).length uc)).setCell ⟨g, 3, none⟩ (.int .i64 ((S.pl : Int) + (mm : Int))))) := by
  have hgl : g < wa.heap.size := (Array.getElem?_eq_some_iff.1 hG).1
  have htl : (x.take mm).length = mm := by rw [List.length_take]; omega
  have hap2 : ∀ k, (Value.slice ba mm bc).ownBlock = some k → ¬ O k := fun k e => hap k (by cases ba with | none => cases e | some q => exact e)
  have hne : x.take mm ≠ [] := fun e => by rw [e] at htl; simp at htl; omega
  have hcut : Bys w (.slice ba mm bc) (x.take mm) := by
    obtain ⟨_, xb, xo, rfl, hxl, hcells⟩ := bys_block hx h0
    have := bys_cut hx 0 mm bc (by omega)
    simpa using this
  have hcutW : Bys W (.slice ba mm bc) (x.take mm) := (hcut.turned hT (fun k e _ e' => hap2 k e (by have e2 : k = g := e'; rw [e2]; exact og))).below hW
  refine (lay_any 0 _ (.slice ba mm bc) S.l (x.take mm) S.pl W (owns_below hr hW) hcutW (fun _ k e e' => hap2 k e (hb k e').1) (by omega) (by rw [htl]; omega) (Nat.zero_le _)).mono ?_
  rintro _ w2 ⟨u, rfl, hu, hub, hT2⟩
  rw [← lay_rlay _ _ _ hne] at hu
  have hll : (lay S.l S.pl (x.take mm)).length ≤ S.room := by rw [lay_len, htl]; split <;> omega
  generalize lay S.l S.pl (x.take mm) = Z at *
  obtain ⟨ua, uc, rfl⟩ := owns_slice hu
  have hg2 : w2.heap[g]? = some (.cells (rmc kind (.slice a S.l.length c) S.room S.pl (.slice none 0 0) (.slice none 0 0) mc) 196) := by
    rw [hT2.block g (Nat.lt_of_lt_of_le hgl hW.size) (fun e => (hb g e).2 rfl), hW.block g hgl]
    exact hG
  have h3 := Go.heap_setCell_same w2 g 1 _ _ (.slice ua Z.length uc) hg2
  have h4 := Go.heap_setCell_same _ g 3 _ _ (.int .i64 ((S.pl : Int) + (mm : Int))) h3
  have hTz : Turned (fun k => k = g) w2 ((w2.setCell ⟨g, 1, none⟩ (.slice ua Z.length uc)).setCell ⟨g, 3, none⟩ (.int .i64 ((S.pl : Int) + (mm : Int)))) := ((Turned.refl (fun k => k = g) w2).set (.inl rfl)).set (.inl rfl)
  have hwz : w.heap.size ≤ W.heap.size := Nat.le_trans hT.size hW.size
  have hug : ∀ k, (Value.slice ua Z.length uc).ownBlock = some k → (O k ∨ w.heap.size ≤ k) ∧ k ≠ g := fun k e => by
    rcases hub k e with e1 | e1
    · exact ⟨.inl (hb k e1).1, (hb k e1).2⟩
    · have := hW.size
      exact ⟨.inr (by omega), by omega⟩
  refine ⟨ua, uc, rfl, ⟨cell_of_row _ g 1 _ _ _ hg2, cell_of_row _ g 3 _ _ _ hg2, frozen_of_row _ g 1 _ _ hg2, cell_of_row _ g 3 _ _ _ h3, frozen_of_row _ g 3 _ _ h3⟩, hide ⟨fun k => O k ∨ w.heap.size ≤ k, ⟨ua, uc, mc, ?_, owns_turned hu hTz (fun k e => (hug k e).2), hug, .inl og, hll, hm2, z3⟩, fun _ e => e, ?_⟩⟩
  · rw [h4]; rfl
  · have hTW : Turned O w W := (hT.mono (fun k e => by rw [e]; exact og)).trans (Turned.of_below (S := O) hW) (fun _ _ e => e)
    have hTw2 : Turned O w w2 := hTW.trans hT2 (fun k _ e => (hb k e).1)
    exact hTw2.trans hTz (fun k _ e => by have e2 : k = g := e; rw [e2]; exact og)
set_option maxRecDepth 100000 in
set_option maxHeartbeats 2000000 in
theorem rrmwrite_any (O : Nat → Prop) (g : Nat) (kind : Int) (S : MS) (x : List UInt8) (ba : Option Addr) (bc : Nat) (w : World) (h : RMemAt w O g kind S) (hk : kind = 1 ∨ kind = 2) (hx : Bys w (.slice ba x.length bc) x) (hc : x.length ≤ bc) (hap : 0 < x.length → ∀ k, (Value.slice ba x.length bc).ownBlock = some k → ¬ O k) :
    Calls Tryz.prog 232 #[.pointer (some ⟨g, 0, none⟩), .slice ba x.length bc] w fun e w' => e = .returned (.tuple #[.int .i64 (S.write x).1, .int .i64 (S.write x).2.1]) ∧ RMStep w O g kind (S.write x).2.2 w' := by
  obtain ⟨a, c, m, h1, hr, hb, og, z1, z2, z3⟩ := h
  have hk5 : (kind == 5) = false := by rcases hk with rfl | rfl <;> rfl
  have hk4 : (kind == 4) = false := by rcases hk with rfl | rfl <;> rfl
  have hk3 : (kind == 3) = false := by rcases hk with rfl | rfl <;> rfl
  have q0 : w.cell? ⟨g, 0, none⟩ = some (.int .i64 kind) := cell_of_row w g 0 _ _ _ h1
  have q8 : w.cell? ⟨g, 8, none⟩ = some (.int .i64 m) := cell_of_row w g 8 _ _ _ h1
  have s8 := frozen_of_row w g 8 _ _ h1
  have HT := hide (RMemAt.tick h1 hr hb (wrap64 (m + 1)))
  have r0 : ∀ c', (w.setCell ⟨g, 8, none⟩ (.int .i64 c')).cell? ⟨g, 0, none⟩ = some (.int .i64 kind) := fun c' => cell_of_row _ g 0 _ _ _ (RMemAt.tick h1 hr hb c').1
  have r1 : ∀ c', (w.setCell ⟨g, 8, none⟩ (.int .i64 c')).cell? ⟨g, 1, none⟩ = some (.slice a S.l.length c) := fun c' => cell_of_row _ g 1 _ _ _ (RMemAt.tick h1 hr hb c').1
  have r2 : ∀ c', (w.setCell ⟨g, 8, none⟩ (.int .i64 c')).cell? ⟨g, 2, none⟩ = some (.int .i64 S.room) := fun c' => cell_of_row _ g 2 _ _ _ (RMemAt.tick h1 hr hb c').1
  have r3 : ∀ c', (w.setCell ⟨g, 8, none⟩ (.int .i64 c')).cell? ⟨g, 3, none⟩ = some (.int .i64 S.pl) := fun c' => cell_of_row _ g 3 _ _ _ (RMemAt.tick h1 hr hb c').1
  have HX := hide (And.intro hx hap)
  have HB := hide hb
  clear h1 hr hb hk hx hap
  have HE : Hid (RMStep w O g kind S (w.setCell ⟨g, 8, none⟩ (.int .i64 (wrap64 (m + 1))))) := hide ⟨O, ⟨a, c, _, HT.out.1, HT.out.2.1, HB.out, og, z1, z2, z3⟩, fun _ e => .inl e, HT.out.2.2.mono (fun k e => by rw [e]; exact og)⟩
  unfold MS.write
  by_cases h1 : 1048576 < x.length
  · rw [if_pos h1]
    have e1 : (1048576 : Int) < (x.length : Int) := by omega
    go_enter Tryz.func232, Tryz.ntmps232
    go_wp2
    go_ret2
    exact ⟨rfl, HE.out⟩
  rw [if_neg h1]
  have e1 : ¬ (1048576 : Int) < (x.length : Int) := by omega
  by_cases h2 : x = []
  · rw [if_pos h2]
    subst h2
    clear e1
    simp only [List.length_nil] at *
    go_enter Tryz.func232, Tryz.ntmps232
    go_wp2
    go_ret2
    exact ⟨rfl, HE.out⟩
  rw [if_neg h2]
  have h0 : 0 < x.length := List.length_pos_iff.2 h2
  have e2 : ((x.length : Int) == 0) = false := by simp; omega
  clear h1 h2
  by_cases h3 : S.pl = S.room
  · rw [if_pos h3]
    have e3 : (S.room : Int) ≤ (S.pl : Int) := by omega
    clear h3
    go_enter Tryz.func232, Tryz.ntmps232
    go_wp2_with fail
    have k2 := r2 (wrap64 (m + 1))
    have k3 := r3 (wrap64 (m + 1))
    clear r0 r1 r2 r3 q0 q8 s8
    generalize w.setCell ⟨g, 8, none⟩ (.int .i64 (wrap64 (m + 1))) = wa at *
    go_quiet (fail)
    go_wp2
    go_ret2
    obtain ⟨O', y1, y2, y3⟩ := HE.out
    have hbn := below_drewN (Below.refl wa.heap.size wa) nq
    exact ⟨rfl, O', y1.keep (fun j _ hl => hbn.block j hl), y2, y3.trans (Turned.of_below (S := O) hbn) (fun _ _ e => e)⟩
  rw [if_neg h3]
  have e3 : ¬ (S.room : Int) ≤ (S.pl : Int) := by omega
  obtain ⟨mm, hmm⟩ : ∃ mm, mm = min x.length (S.room - S.pl) := ⟨_, rfl⟩
  rw [← hmm]
  have hm0 : 0 < mm := by omega
  have hm1 : mm ≤ x.length := by omega
  have hm2 : S.pl + mm ≤ S.room := by omega
  have hmi : min (x.length : Int) ((S.room : Int) - (S.pl : Int)) = (mm : Int) := by omega
  have hmc : mm ≤ bc := by omega
  have HL := hide (rrm_lay O g kind S x ba bc mm a c (wrap64 (m + 1)) w _ HT.out.1 HT.out.2.1 HB.out og HT.out.2.2 z1 z3 HX.out.1 (HX.out.2 h0) h0 hm0 hm1 hm2)
  clear h3 HE hmm HX
  generalize lay S.l S.pl (x.take mm) = Z at *
  go_enter Tryz.func232, Tryz.ntmps232
  go_wp2_with fail
  have k1 := r1 (wrap64 (m + 1))
  have k2 := r2 (wrap64 (m + 1))
  have k3 := r3 (wrap64 (m + 1))
  clear r0 r1 r2 r3 q0 q8 s8 HT
  generalize w.setCell ⟨g, 8, none⟩ (.int .i64 (wrap64 (m + 1))) = wa at *
  go_quiet (fail)
  go_wp2_with fail
  go_quiet (fail)
  go_wp2_with fail
  go_region_law (first
      | (go_simp; go_at_call 221; refine (HL.out _ (below_drewN (Below.refl _ _) _)).mono ?_; rintro _ w2 ⟨ua, uc, rfl, ⟨j1, j3, f1, j3', f3⟩, HN⟩)
      | fail)
  all_goals
    go_wp2
    go_ret2
    exact ⟨rfl, HN.out⟩
end Go.Proofs.YtdmkjbdlidadiaaGreat

/- Answers for the program: the law's answers. -/
namespace Go.Proofs.YtdmkjbdlidadiaaGreat
open Go.RowKit

end Go.Proofs.YtdmkjbdlidadiaaGreat

/- The reference's custom stream: made. -/
namespace Go.Proofs.YtdmkjbdlidadiaaGreat
open Go.RowKit

end Go.Proofs.YtdmkjbdlidadiaaGreat

/- A custom stream: an answer is used up. -/
namespace Go.Proofs.YtdmkjbdlidadiaaGreat
open Go.RowKit

end Go.Proofs.YtdmkjbdlidadiaaGreat

/- A custom stream: useAnswer, useNumber, as deferred calls. -/
namespace Go.Proofs.YtdmkjbdlidadiaaGreat
open Go.RowKit

end Go.Proofs.YtdmkjbdlidadiaaGreat

/- A custom stream: Read. -/
namespace Go.Proofs.YtdmkjbdlidadiaaGreat
open Go.RowKit

end Go.Proofs.YtdmkjbdlidadiaaGreat

/- A custom stream: howMany. -/
namespace Go.Proofs.YtdmkjbdlidadiaaGreat
open Go.RowKit

end Go.Proofs.YtdmkjbdlidadiaaGreat

/- A custom stream: Write, Taken. -/
namespace Go.Proofs.YtdmkjbdlidadiaaGreat
open Go.RowKit

end Go.Proofs.YtdmkjbdlidadiaaGreat

/- The reference's custom streams: in memory; Read. -/
namespace Go.Proofs.YtdmkjbdlidadiaaGreat
open Go.RowKit

end Go.Proofs.YtdmkjbdlidadiaaGreat

/- The reference's custom streams: Write, Seek. -/
namespace Go.Proofs.YtdmkjbdlidadiaaGreat
open Go.RowKit

end Go.Proofs.YtdmkjbdlidadiaaGreat

/- Two objects in memory that share nothing. -/
namespace Go.Proofs.YtdmkjbdlidadiaaGreat
open Go.RowKit

structure OAt (A : World → (Nat → Prop) → Prop) : Prop where
  keep : ∀ {w w' : World} {O : Nat → Prop}, A w O → (∀ j, O j → j < w.heap.size → w'.heap[j]? = w.heap[j]?) → w.heap.size ≤ w'.heap.size → A w' O
  trim : ∀ {w : World} {O : Nat → Prop}, A w O → A w (fun k => O k ∧ k < w.heap.size)
def OStep (A : World → (Nat → Prop) → Prop) (w : World) (O : Nat → Prop) (w' : World) : Prop := ∃ O', A w' O' ∧ (∀ k, O' k → O k ∨ w.heap.size ≤ k) ∧ Turned O w w'
def Both (A B : World → (Nat → Prop) → Prop) (w : World) (Q : Nat → Prop) : Prop := ∃ O P, A w O ∧ B w P ∧ (∀ j, O j → Q j ∧ j < w.heap.size ∧ ¬ P j) ∧ ∀ j, P j → Q j ∧ j < w.heap.size
theorem Both.below {A B : World → (Nat → Prop) → Prop} {w w' : World} {Q : Nat → Prop} (h : Both A B w Q) (hA : OAt A) (hB : OAt B) (hb : Below w.heap.size w w') : Both A B w' (fun j => Q j ∧ (j < w.heap.size ∨ w'.heap.size ≤ j)) := by
  obtain ⟨O, P, h1, h2, h3, h4⟩ := h
  have hz := hb.size
  exact ⟨O, P, hA.keep h1 (fun j _ hl => hb.block j hl) hz, hB.keep h2 (fun j _ hl => hb.block j hl) hz, fun j e => ⟨⟨(h3 j e).1, .inl (h3 j e).2.1⟩, Nat.lt_of_lt_of_le (h3 j e).2.1 hz, (h3 j e).2.2⟩, fun j e => ⟨⟨(h4 j e).1, .inl (h4 j e).2⟩, Nat.lt_of_lt_of_le (h4 j e).2 hz⟩⟩
theorem Both.mono {A B : World → (Nat → Prop) → Prop} {w : World} {Q Q' : Nat → Prop} (h : Both A B w Q) (hq : ∀ j, Q j → Q' j) : Both A B w Q' := by
  obtain ⟨O, P, h1, h2, h3, h4⟩ := h
  exact ⟨O, P, h1, h2, fun j e => ⟨hq j (h3 j e).1, (h3 j e).2⟩, fun j e => ⟨hq j (h4 j e).1, (h4 j e).2⟩⟩
theorem Both.swap {A B : World → (Nat → Prop) → Prop} {w : World} {Q : Nat → Prop} (h : Both A B w Q) : Both B A w Q := by
  obtain ⟨O, P, h1, h2, h3, h4⟩ := h
  exact ⟨P, O, h2, h1, fun j e => ⟨(h4 j e).1, (h4 j e).2, fun e' => (h3 j e').2.2 e⟩, fun j e => ⟨(h3 j e).1, (h3 j e).2.1⟩⟩
theorem Both.one {A B : World → (Nat → Prop) → Prop} {w : World} {Q : Nat → Prop} (h : Both A B w Q) (hB : OAt B) :
    ∃ O, A w O ∧ (∀ j, O j → Q j ∧ j < w.heap.size) ∧ (∀ A' w1 w', Below w.heap.size w w1 → OAt A' → OStep A' w1 O w' → Both A' B w' (fun j => Q j ∨ w1.heap.size ≤ j) ∧ Turned Q w w') ∧
      ∀ A' w', A' w' O → Turned O w w' → Both A' B w' (fun j => Q j ∧ (j < w.heap.size ∨ w'.heap.size ≤ j)) ∧ Turned Q w w' := by
  obtain ⟨O, P, h1, h2, h3, h4⟩ := h
  refine ⟨O, h1, fun j e => ⟨(h3 j e).1, (h3 j e).2.1⟩, fun A' w1 w' hb1 hA' hS => ?_, fun A' w' hA' hT => ?_⟩
  · obtain ⟨O', a1, a2, a3⟩ := hS
    have hz := a3.size
    have hz1 := hb1.size
    refine ⟨⟨fun k => O' k ∧ k < w'.heap.size, P, hA'.trim a1, hB.keep h2 (fun j e hl => (a3.block j (Nat.lt_of_lt_of_le hl hz1) (fun e' => (h3 j e').2.2 e)).trans (hb1.block j hl)) (Nat.le_trans hz1 hz), fun j e => ⟨?_, e.2, fun e' => ?_⟩, fun j e => ⟨.inl (h4 j e).1, Nat.lt_of_lt_of_le (h4 j e).2 (Nat.le_trans hz1 hz)⟩⟩, (Turned.of_below hb1).trans (a3.mono fun k e => (h3 k e).1) (fun _ _ e => e)⟩
    · rcases a2 j e.1 with e1 | e1
      · exact .inl (h3 j e1).1
      · exact .inr e1
    · rcases a2 j e.1 with e1 | e1
      · exact (h3 j e1).2.2 e'
      · have := (h4 j e').2; omega
  · have hz := hT.size
    exact ⟨⟨O, P, hA', hB.keep h2 (fun j e hl => hT.block j hl (fun e' => (h3 j e').2.2 e)) hz, fun j e => ⟨⟨(h3 j e).1, .inl (h3 j e).2.1⟩, Nat.lt_of_lt_of_le (h3 j e).2.1 hz, (h3 j e).2.2⟩, fun j e => ⟨⟨(h4 j e).1, .inl (h4 j e).2⟩, Nat.lt_of_lt_of_le (h4 j e).2 hz⟩⟩, hT.mono fun k e => (h3 k e).1⟩
theorem Both.two {A B : World → (Nat → Prop) → Prop} {w : World} {Q : Nat → Prop} (h : Both A B w Q) (hA : OAt A) :
    ∃ P, B w P ∧ (∀ j, P j → Q j ∧ j < w.heap.size) ∧ (∀ B' w1 w', Below w.heap.size w w1 → OAt B' → OStep B' w1 P w' → Both A B' w' (fun j => Q j ∨ w1.heap.size ≤ j) ∧ Turned Q w w') ∧
      ∀ B' w', B' w' P → Turned P w w' → Both A B' w' (fun j => Q j ∧ (j < w.heap.size ∨ w'.heap.size ≤ j)) ∧ Turned Q w w' := by
  obtain ⟨P, h1, h2, h3, h4⟩ := h.swap.one hA
  exact ⟨P, h1, h2, fun B' w1 w' hb hB' hS => by obtain ⟨a, b⟩ := h3 B' w1 w' hb hB' hS; exact ⟨a.swap, b⟩, fun B' w' hB' hT => by obtain ⟨a, b⟩ := h4 B' w' hB' hT; exact ⟨a.swap, b⟩⟩
theorem Both.make {A B : World → (Nat → Prop) → Prop} {w w' : World} {O Q : Nat → Prop} (hA : OAt A) (hB : OAt B) (h1 : A w O) (hO : ∀ j, O j → j < w.heap.size → Q j) (hQ : ∀ j, w.heap.size ≤ j → j < w'.heap.size → Q j) (hb : Below w.heap.size w w') (h2 : B w' (fun k => w.heap.size ≤ k)) : Both A B w' Q := by
  have hz := hb.size
  exact ⟨fun k => O k ∧ k < w.heap.size, fun k => w.heap.size ≤ k ∧ k < w'.heap.size, hA.keep (hA.trim h1) (fun j _ hl => hb.block j hl) hz, hB.trim h2, fun j e => ⟨hO j e.1 e.2, by have := e.2; omega, fun e' => by have := e.2; have := e'.1; omega⟩, fun j e => ⟨hQ j e.1 e.2, e.2⟩⟩
end Go.Proofs.YtdmkjbdlidadiaaGreat

/- The statements' own example holds: alive answers true. -/
namespace Go.Proofs.YtdmkjbdlidadiaaGreat
open Go.RowKit

theorem mem_o (g : Nat) (S : MS) : OAt (fun w O => MemAt w O g S) := ⟨fun h hk _ => h.keep hk, fun h => h.trim⟩
end Go.Proofs.YtdmkjbdlidadiaaGreat

/- A Raw of either side, of any kind: what a law is told of the two. -/
namespace Go.Proofs.YtdmkjbdlidadiaaGreat
open Go.RowKit

structure RD (σ : Type) where
  read : σ → Int → List UInt8 × Int × σ
  write : σ → List UInt8 → Int × Int × σ
  seek : σ → Int → Int → Int × Int × σ
structure PlK {σ : Type} (D : RD σ) (T : TypeId) (v : Value) (g mb : Nat) (fr fw fs : FuncId) (A B : σ → World → (Nat → Prop) → Prop) (ok : Nat → σ → Prop) (Md : World → Prop) : Prop where
  mread : ∀ w, (method 503 T v "Read").run Tryz.prog w = .ok (fr, v) w
  mwrite : ∀ w, (method 503 T v "Write").run Tryz.prog w = .ok (fw, v) w
  mseek : ∀ w, (method 503 T v "Seek").run Tryz.prog w = .ok (fs, v) w
  cread : ∀ a w, (callFunc fr a).run Tryz.prog w = .ok (.enter fr a) w
  cwrite : ∀ a w, (callFunc fw a).run Tryz.prog w = .ok (.enter fw a) w
  cseek : ∀ a w, (callFunc fs a).run Tryz.prog w = .ok (.enter fs a) w
  oA : ∀ s, OAt (A s)
  oB : ∀ s, OAt (B s)
  less : ∀ n s, ok (n + 1) s → ok n s
  nr : ∀ n s k, ok (n + 1) s → ok n (D.read s k).2.2
  nw : ∀ n s x, ok (n + 1) s → x.length ≤ 1048576 → ok n (D.write s x).2.2
  ns : ∀ n s o wh, ok (n + 1) s → ok n (D.seek s o wh).2.2
  few : ∀ {w : World} {O : Nat → Prop} {s : σ} (n : Int), A s w O → (D.read s n).1.length ≤ 1048576
  pr : ∀ {w : World} {O : Nat → Prop} {s : σ} (n : Int), A s w O → ok 1 s → Calls Tryz.prog fr #[v, .int .i64 n] w fun e w' => ∃ u, e = .returned (.tuple #[u, .int .i64 (D.read s n).2.1]) ∧ w'.ownsRow w.heap.size 5 1 u (D.read s n).1.length ((D.read s n).1.map bv) ∧ A (D.read s n).2.2 w' O ∧ Turned O w w'
  qr : ∀ {w : World} {O : Nat → Prop} {s : σ} (n : Int), B s w O → ok 1 s → Calls Tryz.prog 234 #[.pointer (some ⟨g, 0, none⟩), .int .i64 n] w fun e w' => ∃ u, e = .returned (.tuple #[u, .int .i64 (D.read s n).2.1]) ∧ Bys w' u (D.read s n).1 ∧ OStep (B (D.read s n).2.2) w O w'
  pw : ∀ {w : World} {O : Nat → Prop} {s : σ} (x : List UInt8) (a : Option Addr) (c : Nat), A s w O → ok 1 s → Bys w (.slice a x.length c) x → x.length ≤ c → x.length ≤ 1048576 → (0 < x.length → ∀ k, (Value.slice a x.length c).ownBlock = some k → ¬ O k) →
    Calls Tryz.prog fw #[v, .slice a x.length c] w fun e w' => e = .returned (.tuple #[.int .i64 (D.write s x).1, .int .i64 (D.write s x).2.1]) ∧ OStep (A (D.write s x).2.2) w O w'
  qw : ∀ {w : World} {O : Nat → Prop} {s : σ} (x : List UInt8) (a : Option Addr) (c : Nat), B s w O → ok 1 s → Bys w (.slice a x.length c) x → x.length ≤ c → x.length ≤ 1048576 → (0 < x.length → ∀ k, (Value.slice a x.length c).ownBlock = some k → ¬ O k) →
    Calls Tryz.prog 232 #[.pointer (some ⟨g, 0, none⟩), .slice a x.length c] w fun e w' => e = .returned (.tuple #[.int .i64 (D.write s x).1, .int .i64 (D.write s x).2.1]) ∧ OStep (B (D.write s x).2.2) w O w'
  ps : ∀ {w : World} {O : Nat → Prop} {s : σ} (o wh : Int), A s w O → ok 1 s → I64 o → Calls Tryz.prog fs #[v, .int .i64 o, .int .i64 wh] w fun e w' => e = .returned (.tuple #[.int .i64 (D.seek s o wh).1, .int .i64 (D.seek s o wh).2.1]) ∧ OStep (A (D.seek s o wh).2.2) w O w'
  qs : ∀ {w : World} {O : Nat → Prop} {s : σ} (o wh : Int), B s w O → ok 1 s → I64 o → Calls Tryz.prog 101 #[.pointer (some ⟨g, 0, none⟩), .int .i64 o, .int .i64 wh] w fun e w' => e = .returned (.tuple #[.int .i64 (D.seek s o wh).1, .int .i64 (D.seek s o wh).2.1]) ∧ OStep (B (D.seek s o wh).2.2) w O w'
  tr : ∀ {w : World} {O : Nat → Prop} {s : σ} (n : Nat), B s w O → (D.read s (n : Int)).1.length ≤ n ∧ ((D.read s (n : Int)).2.1 ≠ 0 → (D.read s (n : Int)).1 = [])
  tw : ∀ {w : World} {O : Nat → Prop} {s : σ} (x : List UInt8), B s w O → 0 ≤ (D.write s x).1 ∧ (D.write s x).1 ≤ x.length ∧ ((D.write s x).2.1 ≠ 0 → (D.write s x).1 = 0)
  same : ∀ {w : World} {s : σ}, Both (A s) (B s) w (fun j => mb < j) → Md w → ok 0 s → Calls Tryz.prog 27 #[.pointer (some ⟨mb, 0, none⟩)] w fun e w' => e = .returned (.bool true) ∧ Below w.heap.size w w'
abbrev PP {σ : Type} (A B : σ → World → (Nat → Prop) → Prop) (s : σ) (lo : Nat) (w : World) : Prop := Both (A s) (B s) w (fun j => lo ≤ j)
theorem pk_num {σ : Type} {A B : σ → World → (Nat → Prop) → Prop} (oA : ∀ s, OAt (A s)) (oB : ∀ s, OAt (B s)) {s s' : σ} {lo : Nat} {w : World} {F G : FuncId} {X Y : Array Value} {N E : Int} (h : PP A B s lo w) (hlo : lo ≤ w.heap.size)
    (hF : ∀ O wb, A s wb O → (∀ j, O j → lo ≤ j ∧ (j < w.heap.size ∨ wb.heap.size ≤ j)) → Below w.heap.size w wb → Calls Tryz.prog F X wb fun e w' => e = .returned (.tuple #[.int .i64 N, .int .i64 E]) ∧ OStep (A s') wb O w')
    (hG : ∀ O wb, B s wb O → (∀ j, O j → lo ≤ j) → Turned (fun j => lo ≤ j) w wb → Calls Tryz.prog G Y wb fun e w' => e = .returned (.tuple #[.int .i64 N, .int .i64 E]) ∧ OStep (B s') wb O w') :
    ∀ wb, Below w.heap.size w wb → Calls Tryz.prog F X wb fun e w1 => e = .returned (.tuple #[.int .i64 N, .int .i64 E]) ∧ Turned (fun j => lo ≤ j ∧ (j < w.heap.size ∨ wb.heap.size ≤ j)) wb w1 ∧ Turned (fun j => lo ≤ j) w w1 ∧
      ∀ w2, Below w1.heap.size w1 w2 → Calls Tryz.prog G Y w2 fun e w3 => e = .returned (.tuple #[.int .i64 N, .int .i64 E]) ∧ Hid (PP A B s' lo w3) ∧ Turned (fun j => lo ≤ j ∧ (j < w.heap.size ∨ wb.heap.size ≤ j)) wb w3 ∧ Turned (fun j => lo ≤ j) w w3 := by
  intro wb hb
  have hbb := Both.below h (oA _) (oB _) hb
  have hzb := hb.size
  obtain ⟨O, h1, h2, h3, -⟩ := hbb.one (oB _)
  refine (hF O wb h1 (fun j e => (h2 j e).1) hb).mono ?_
  rintro e w1 ⟨rfl, hS⟩
  obtain ⟨q1, q2⟩ := h3 (A s') wb w1 (Below.refl _ _) (oA _) hS
  have hT1 : Turned (fun j => lo ≤ j) w w1 := (Turned.of_below (S := fun j => lo ≤ j) hb).trans (q2.mono fun _ e => e.1) (fun _ _ e => e)
  refine ⟨rfl, q2, hT1, fun w2 hb2 => ?_⟩
  have hz1 := q2.size
  have hz2 := hb2.size
  have q3 := q1.below (oA _) (oB _) hb2
  obtain ⟨P, p1, p2, p3, -⟩ := q3.two (oA _)
  have hT2 := hT1.trans (Turned.of_below (S := fun j => lo ≤ j) hb2) (fun _ _ e => e)
  refine (hG P w2 p1 (fun j e => by rcases (p2 j e).1.1 with e | e; exact e.1; exact Nat.le_trans (Nat.le_trans hlo hzb) e) hT2).mono ?_
  rintro e w3 ⟨rfl, hS3⟩
  obtain ⟨r1, r2⟩ := p3 (B s') w2 w3 (Below.refl _ _) (oB _) hS3
  have hin : ∀ j, ((fun j => ((lo ≤ j ∧ (j < w.heap.size ∨ wb.heap.size ≤ j)) ∨ wb.heap.size ≤ j) ∧ (j < w1.heap.size ∨ w2.heap.size ≤ j)) j) → lo ≤ j ∧ (j < w.heap.size ∨ wb.heap.size ≤ j) := fun j e => by
    rcases e.1 with e1 | e1
    · exact e1
    · exact ⟨by omega, .inr e1⟩
  refine ⟨rfl, hide (r1.mono fun j e => ?_), (q2.trans (Turned.of_below (S := fun j => lo ≤ j ∧ (j < w.heap.size ∨ wb.heap.size ≤ j)) hb2) (fun _ _ e => e)).trans (r2.mono hin) (fun _ _ e => e), hT2.trans (r2.mono fun j e => (hin j e).1) (fun _ _ e => e)⟩
  rcases e with e | e
  · exact (hin j e).1
  · show lo ≤ j; omega
end Go.Proofs.YtdmkjbdlidadiaaGreat

/- A plant's kinds: memories and custom streams. -/
namespace Go.Proofs.YtdmkjbdlidadiaaGreat
open Go.RowKit

theorem rmem_o (g : Nat) (kind : Int) (S : MS) : OAt (fun w O => RMemAt w O g kind S) := ⟨fun h hk _ => h.keep hk, fun h => h.trim⟩
def msD : RD MS := ⟨MS.read, MS.write, MS.seek⟩
theorem ms_few {w : World} {O : Nat → Prop} {g : Nat} {S : MS} (n : Int) (h : MemAt w O g S) : (S.read n).1.length ≤ 1048576 := by
  have h1 := h.ok
  unfold MS.read
  split
  · show (piece S.l S.pl n.toNat).length ≤ _; rw [piece_len]; omega
  · exact Nat.zero_le _
theorem ms_told (S : MS) (n : Nat) : (S.read (n : Int)).1.length ≤ n ∧ ((S.read (n : Int)).2.1 ≠ 0 → (S.read (n : Int)).1 = []) := by
  unfold MS.read
  split
  · exact ⟨by show (piece S.l S.pl (n : Int).toNat).length ≤ n; rw [piece_len, Int.toNat_natCast]; omega, fun h => absurd rfl h⟩
  · exact ⟨Nat.zero_le _, fun _ => rfl⟩
theorem ms_told_w (S : MS) (x : List UInt8) : 0 ≤ (S.write x).1 ∧ (S.write x).1 ≤ x.length ∧ ((S.write x).2.1 ≠ 0 → (S.write x).1 = 0) := by
  unfold MS.write
  split
  · exact ⟨Int.le_refl _, by show (0 : Int) ≤ _; omega, fun _ => rfl⟩
  split
  · exact ⟨Int.le_refl _, by show (0 : Int) ≤ _; omega, fun _ => rfl⟩
  split
  · exact ⟨Int.le_refl _, by show (0 : Int) ≤ _; omega, fun _ => rfl⟩
  · exact ⟨by show (0 : Int) ≤ ((min x.length (S.room - S.pl) : Nat) : Int); omega, by show ((min x.length (S.room - S.pl) : Nat) : Int) ≤ _; omega, fun h => absurd rfl h⟩
def mdc (T : TypeId) (v : Value) (g : Nat) (f q c : Option Addr) : Array Value := #[.iface T v, .pointer (some ⟨g, 0, none⟩), .pointer f, .pointer q, .pointer c, .pointer none, .pointer none]
def MdAt (mb : Nat) (T : TypeId) (v : Value) (g : Nat) (f q c : Option Addr) (w : World) : Prop := w.heap[mb]? = some (.cells (mdc T v g f q c) 78)
set_option maxRecDepth 100000 in
set_option maxHeartbeats 2000000 in
theorem same_growing (x g mb : Nat) (S : MS) (w : World) (h : Both (fun w O => MemAt w O x S) (fun w O => RMemAt w O g 2 S) w (fun j => mb < j)) (hm : MdAt mb 75 (.pointer (some ⟨x, 0, none⟩)) g none (some ⟨x, 0, none⟩) none w) :
    Calls Tryz.prog 27 #[.pointer (some ⟨mb, 0, none⟩)] w fun e w' => e = .returned (.bool true) ∧ Below w.heap.size w w' := by
  obtain ⟨O, P, hA, hB, -, -⟩ := h
  obtain ⟨ba, bc, g1, hby⟩ : ∃ ba bc, w.cell? ⟨g, 1, none⟩ = some (.slice ba S.l.length bc) ∧ Bys w (.slice ba S.l.length bc) S.l := by
    obtain ⟨ba, bc, m, hg, hr, -⟩ := hB
    exact ⟨ba, bc, cell_of_row w g 1 _ _ _ hg, Bys.of_owns hr⟩
  have q1 : w.cell? ⟨mb, 1, none⟩ = some (.pointer (some ⟨g, 0, none⟩)) := cell_of_row w mb 1 _ _ _ hm
  have q12 : w.cell? ⟨mb, 2, none⟩ = some (.pointer none) := cell_of_row w mb 2 _ _ _ hm
  have q2 : w.cell? ⟨mb, 3, none⟩ = some (.pointer (some ⟨x, 0, none⟩)) := cell_of_row w mb 3 _ _ _ hm
  have hlen : S.l.length ≤ maxLen := by have := hA.ok; unfold maxLen; omega
  have HM := hide (gmbytes_any O x S w.drew (hA.below (Below.refl _ _).drew))
  have HY := hide hby
  have hgl : g < w.heap.size := World.block_lt_of_cell? w _ g1
  have hml : mb < w.heap.size := World.block_lt_of_cell? w _ q1
  clear hm hA hB hby
  go_enter Tryz.func27, Tryz.ntmps27
  go_wp2_with fail
  go_region_held3 (fun w' => w'.cell? ⟨mb, 1, none⟩ = some (.pointer (some ⟨g, 0, none⟩)) ∧ w'.cell? ⟨mb, 3, none⟩ = some (.pointer (some ⟨x, 0, none⟩)) ∧ w'.cell? ⟨g, 1, none⟩ = some (.slice ba S.l.length bc))
    (first | exact K3 | exact K2 | go_keep)
    (first
      | (go_at_call 103; refine HM.out.mono ?_; rintro _ w2 ⟨v, rfl, ho, hB2⟩; obtain ⟨va, vc, rfl⟩ := owns_slice ho; have K2 : w2.cell? ⟨mb, 1, none⟩ = some (.pointer (some ⟨g, 0, none⟩)) ∧ w2.cell? ⟨mb, 3, none⟩ = some (.pointer (some ⟨x, 0, none⟩)) ∧ w2.cell? ⟨g, 1, none⟩ = some (.slice ba S.l.length bc) := ⟨(hB2.cell (p := ⟨mb, 1, none⟩) hml).trans q1, (hB2.cell (p := ⟨mb, 3, none⟩) hml).trans q2, (hB2.cell (p := ⟨g, 1, none⟩) hgl).trans g1⟩)
      | (go_at_call 64; refine (same_any _ _ _ w2 (Bys.of_owns ho) (HY.out.below ((Below.refl _ w).drew.trans hB2)) hlen).mono ?_; rintro _ w3 ⟨rfl, hB3⟩; have K3 : w3.cell? ⟨mb, 1, none⟩ = some (.pointer (some ⟨g, 0, none⟩)) ∧ w3.cell? ⟨mb, 3, none⟩ = some (.pointer (some ⟨x, 0, none⟩)) ∧ w3.cell? ⟨g, 1, none⟩ = some (.slice ba S.l.length bc) := ⟨(hB3.cell (p := ⟨mb, 1, none⟩) (Nat.lt_of_lt_of_le hml hB2.size)).trans K2.1, (hB3.cell (p := ⟨mb, 3, none⟩) (Nat.lt_of_lt_of_le hml hB2.size)).trans K2.2.1, (hB3.cell (p := ⟨g, 1, none⟩) (Nat.lt_of_lt_of_le hgl hB2.size)).trans K2.2.2⟩)
      | fail)
  all_goals
    go_wp2
    go_ret
    exact ⟨rfl, (Below.refl _ w).drew.trans (hB2.trans (hB3.mono hB2.size))⟩
set_option maxRecDepth 100000 in
theorem pk_growing (x g mb : Nat) : PlK msD 75 (.pointer (some ⟨x, 0, none⟩)) g mb 310 312 311 (fun S w O => MemAt w O x S) (fun S w O => RMemAt w O g 2 S) (fun _ _ => True) (MdAt mb 75 (.pointer (some ⟨x, 0, none⟩)) g none (some ⟨x, 0, none⟩) none) where
  mread w := by kernel_rfl
  mwrite w := by kernel_rfl
  mseek w := by kernel_rfl
  cread a w := by kernel_rfl
  cwrite a w := by kernel_rfl
  cseek a w := by kernel_rfl
  oA s := mem_o _ _
  oB s := rmem_o _ _ _
  less _ _ h := h
  nr _ _ _ h := h
  nw _ _ _ h _ := h
  ns _ _ _ _ h := h
  few n h := ms_few n h
  pr n h _ := gmread_any _ _ _ n _ h
  qr n h _ := (rrmread_any _ _ _ n _ _ h (.inr (.inl rfl))).mono fun e w' ⟨u, h1, h2, h3, h4⟩ => ⟨u, h1, h2, _, h3, fun _ e => .inl e, h4⟩
  pw y a c h _ hx hc _ hap := gmwrite_any _ _ _ y a c _ h hx hc hap
  qw y a c h _ hx hc _ hap := rrmwrite_any _ _ _ _ y a c _ h (.inr rfl) hx hc hap
  ps o wh h _ _ := gmseek_any _ _ _ o wh _ h
  qs o wh h _ _ := (rrmseek_any _ _ _ o wh _ _ h (.inr (.inl rfl))).mono fun e w' ⟨h1, h3, h4⟩ => ⟨h1, _, h3, fun _ e => .inl e, h4⟩
  tr n _ := ms_told _ n
  tw x _ := ms_told_w _ x
  same h hm _ := same_growing x g mb _ _ h hm
end Go.Proofs.YtdmkjbdlidadiaaGreat

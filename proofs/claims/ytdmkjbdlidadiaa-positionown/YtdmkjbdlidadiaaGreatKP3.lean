/- What the proof stands on, part 3: the contracts of the program's calls that it reaches. -/
import Derived.Test.YtdmkjbdlidadiaaGreatKP2
import Derived.Deep.RegionLaw
import Derived.Lib.MinMax
import Derived.Maps.OwnSet
import Derived.Sort.KeysCollected
import Derived.BigRegion
import Derived.Sort.Walk0
import Derived.ChangeArms
import Derived.ChangeSlices
import Derived.SizedLaws
import Derived.Deep.Slices
import Derived.ProofKit
import Derived.OpenShut
import Derived.Deep.SlicePairs
import Derived.Test.YtdmkjbdlidadiaaGreatRows
import Derived.Shelf.SlIter.Nil
import Derived.Shelf.SortM.Plain
import Derived.Shelf.SortM.SortNone
import Derived.Ground.GgzProg
import Derived.Ground.SlgmProg
import Derived.Test.YtdmkjbdlidadiaaGreatProg
import Derived.LaidEqlPtr
import Derived.Lib.Builder
import Derived.Deep.RegionHeld3
import Derived.Deep.LoopGhost
import Derived.Laws.CopyOwn
/- A kernel by the page, as a value: what it is, and what calls answer and leave. No program. -/
namespace Go.Proofs.YtdmkjbdlidadiaaGreat
open Go.RowKit

def nameOk (s : ByteArray) : Bool := decide (0 < s.size) && (decide (s.size ≤ 64) && s.data.toList.all (fun c => decide (33 ≤ c.toNat) && decide (c.toNat ≤ 126)))

abbrev fbit (f m : Int) : Int := bits .and .i64 f m
def flagsOk (f : Int) : Bool := decide (0 ≤ f ∧ f ≤ 63) && (!(fbit f 3 == 0) && ((fbit f 20 == 0 || !(fbit f 2 == 0)) && (fbit f 32 == 0 || !(fbit f 8 == 0))))
structure Th where
  name : ByteArray
  ob : Ob
structure De where
  n : Nat
  th : Nat
  flags : Int
  pos : Nat
  held : Nat
structure KS where
  th : List Th
  nm : List Nat
  de : List De
  next : Nat
  plan : List Fault
  reads : Nat
  writes : Nat
def planOk (l : List Fault) : Prop := l.length ≤ 4096 ∧ ∀ f ∈ l, f.1 = 1 → 1 ≤ f.2 ∧ f.2 ≤ 1048576
structure KOk (K : KS) : Prop where
  few : K.de.length ≤ 256
  named : K.nm.length ≤ 256
  th : ∀ d ∈ K.de, d.th < K.th.length
  nm : ∀ i ∈ K.nm, i < K.th.length
  num : ∀ d ∈ K.de, 1 ≤ d.n ∧ d.n < K.next
  once : ∀ d ∈ K.de, ∀ d' ∈ K.de, d.n = d'.n → d = d'
  flags : ∀ d ∈ K.de, flagsOk d.flags = true
  pos : ∀ d ∈ K.de, d.pos ≤ 1048576
  held : ∀ d ∈ K.de, 1 ≤ d.held ∧ d.held ≤ 1024
  plan : planOk K.plan
end Go.Proofs.YtdmkjbdlidadiaaGreat

/- The reference's terminal: Check, New. -/
namespace Go.Proofs.YtdmkjbdlidadiaaGreat
open Go.RowKit

end Go.Proofs.YtdmkjbdlidadiaaGreat

/- The reference's terminal: Read, Write. -/
namespace Go.Proofs.YtdmkjbdlidadiaaGreat
open Go.RowKit

end Go.Proofs.YtdmkjbdlidadiaaGreat

/- The reference's pipe: Join, Leave, Read, CanRead, CanWrite. -/
namespace Go.Proofs.YtdmkjbdlidadiaaGreat
open Go.RowKit

structure RP (W : World) (B t : Nat) (a : Option Addr) (c : Nat) (q : List UInt8) (rd wr : Nat) : Prop where
  blk : W.heap[t]? = some (.cells ([.slice a q.length c, .int .i64 rd, .int .i64 wr] : List Value).toArray 254 (0, 0))
  bys : Bys W (.slice a q.length c) q
  cap : q.length ≤ c
  lq : q.length ≤ 4096
  lr : rd ≤ 1024
  lw : wr ≤ 1024
  ad : (a = none ∧ c = 0 ∧ q = []) ∨ ∃ b off, a = some ⟨b, off, none⟩ ∧ b ≠ t ∧ B ≤ b ∧ b < W.heap.size
end Go.Proofs.YtdmkjbdlidadiaaGreat

/- The reference's pipe: Read. -/
namespace Go.Proofs.YtdmkjbdlidadiaaGreat
open Go.RowKit

end Go.Proofs.YtdmkjbdlidadiaaGreat

/- The reference's pipe: Write. -/
namespace Go.Proofs.YtdmkjbdlidadiaaGreat
open Go.RowKit

end Go.Proofs.YtdmkjbdlidadiaaGreat

/- The reference's things: files, terminals and pipes in one notion, each within a set of blocks of its own. -/
namespace Go.Proofs.YtdmkjbdlidadiaaGreat
open Go.RowKit

def RObj (W : World) (O : Nat → Prop) (p : Nat) : Ob → Prop
  | .file b => ∃ u B, RFileAt W B p u b ∧ B ≤ W.heap.size ∧ O p ∧ ∀ k, u.ownBlock = some k → O k
  | .term ls scr => ∃ la lc s B O1, Term W B p 0 O1 la lc s ls scr ∧ ∀ k, O1 k → O k
  | .pipe q rd wt => ∃ a c B, RP W B p a c q rd wt ∧ B ≤ W.heap.size ∧ O p ∧ ∀ k, (Value.slice a q.length c).ownBlock = some k → O k
end Go.Proofs.YtdmkjbdlidadiaaGreat

/- CopyNamed, SameNamed. -/
namespace Go.Proofs.YtdmkjbdlidadiaaGreat
open Go.RowKit

end Go.Proofs.YtdmkjbdlidadiaaGreat

/- CopyTyped. -/
namespace Go.Proofs.YtdmkjbdlidadiaaGreat
open Go.RowKit

end Go.Proofs.YtdmkjbdlidadiaaGreat

/- The reference's kernel: Named, has, flagged, Move. -/
namespace Go.Proofs.YtdmkjbdlidadiaaGreat
open Go.RowKit

theorem move_any (base off most : Int) (w : World) (h1 : 0 ≤ base) (h2 : base ≤ 1048576) (h3 : 0 ≤ most) (h4 : most ≤ 1048576) :
    Calls Tryz.prog 138 #[.int .i64 base, .int .i64 off, .int .i64 most] w fun e w' => e = .returned (if 0 ≤ base + off ∧ base + off ≤ most then .tuple #[.int .i64 (base + off), .bool true] else .tuple #[.int .i64 0, .bool false]) ∧ w' = w := by
  rcases (show off < -base ∨ (¬ off < -base ∧ most - base < off) ∨ (¬ off < -base ∧ ¬ most - base < off) by omega) with e1 | ⟨e1, e2⟩ | ⟨e1, e2⟩
  · rw [if_neg (by omega)]
    go_enter Tryz.func138, Tryz.ntmps138
    go_wp2
    go_ret2
    exact ⟨rfl, rfl⟩
  · rw [if_neg (by omega)]
    go_enter Tryz.func138, Tryz.ntmps138
    go_wp2
    go_ret2
    exact ⟨rfl, rfl⟩
  · rw [if_pos (by omega)]
    have e3 : -9223372036854775808 ≤ base + off ∧ base + off ≤ 9223372036854775807 := by omega
    go_enter Tryz.func138, Tryz.ntmps138
    go_wp2
    go_ret2
    exact ⟨rfl, rfl⟩
end Go.Proofs.YtdmkjbdlidadiaaGreat

/- The reference's plan: Next. -/
namespace Go.Proofs.YtdmkjbdlidadiaaGreat
open Go.RowKit

end Go.Proofs.YtdmkjbdlidadiaaGreat

/- The reference's kernel: has, Check. -/
namespace Go.Proofs.YtdmkjbdlidadiaaGreat
open Go.RowKit

end Go.Proofs.YtdmkjbdlidadiaaGreat

/- A kernel by the page: what it is, as a value; what lies in memory for the reference's kernel. -/
namespace Go.Proofs.YtdmkjbdlidadiaaGreat
open Go.RowKit

inductive Tag where
  | kern
  | trow
  | drow
  | plan
  | thing (i : Nat)
  | obj (i : Nat)
  | desc (n : Nat)
structure RI where
  kb : Nat
  vT : Value
  vD : Value
  pb : Nat
  pv : Value
  tb : Nat → Nat
  ob : Nat → Nat
  db : Nat → Nat
def tcells (t : Th) (o : Nat) : List Value :=
  match t.ob with
  | .file _ => [.string t.name, .int .i64 1, .pointer (some ⟨o, 0, none⟩), .pointer none, .pointer none]
  | .term _ _ => [.string t.name, .int .i64 2, .pointer none, .pointer (some ⟨o, 0, none⟩), .pointer none]
  | .pipe _ _ _ => [.string t.name, .int .i64 3, .pointer none, .pointer none, .pointer (some ⟨o, 0, none⟩)]
def RComp (W : World) (_ : Nat → Prop) (ρ : Nat → Option Tag) (I : RI) (K : KS) : Tag → Prop
  | .kern => W.heap[I.kb]? = some (.cells ([I.vT, I.vD, .int .i64 K.next, .pointer (some ⟨I.pb, 0, none⟩), .int .i64 K.reads, .int .i64 K.writes] : List Value).toArray 153 (0, 0)) ∧ ρ I.kb = some .kern
  | .trow => W.ownsRow 0 232 1 I.vT K.nm.length (K.nm.map fun i => .pointer (some ⟨I.tb i, 0, none⟩)) ∧ ∀ k, I.vT.ownBlock = some k → ρ k = some .trow
  | .drow => W.ownsRow 0 262 1 I.vD K.de.length (K.de.map fun d => .pointer (some ⟨I.db d.n, 0, none⟩)) ∧ ∀ k, I.vD.ownBlock = some k → ρ k = some .drow
  | .plan => RPlanAt W I.pb I.pv K.plan ∧ ρ I.pb = some .plan ∧ ∀ k, I.pv.ownBlock = some k → ρ k = some .plan
  | .thing i => ∀ (h : i < K.th.length), W.heap[I.tb i]? = some (.cells (tcells K.th[i] (I.ob i)).toArray 236 (0, 0)) ∧ ρ (I.tb i) = some (.thing i)
  | .obj i => ∀ (h : i < K.th.length), RObj W (fun k => ρ k = some (.obj i)) (I.ob i) K.th[i].ob ∧ K.th[i].ob.ok
  | .desc n => ∀ d ∈ K.de, d.n = n → W.heap[I.db n]? = some (.cells ([.int .i64 n, .pointer (some ⟨I.tb d.th, 0, none⟩), .int .i64 d.flags, .int .i64 d.pos, .int .i64 d.held] : List Value).toArray 265 (0, 0)) ∧ ρ (I.db n) = some (.desc n)
structure RK (W : World) (B : Nat → Prop) (ρ : Nat → Option Tag) (I : RI) (K : KS) : Prop where
  comp : ∀ t, RComp W B ρ I K t
  lt : ∀ k t, ρ k = some t → B k ∧ k < W.heap.size
  ok : KOk K
  up : ∀ k, W.heap.size ≤ k → B k
end Go.Proofs.YtdmkjbdlidadiaaGreat

/- The reference's kernel: what a description that is found leads to; Kind, Held, CanRead, CanWrite, Keep. -/
namespace Go.Proofs.YtdmkjbdlidadiaaGreat
open Go.RowKit

structure DeAt (W : World) (I : RI) (K : KS) (x : De) : Prop where
  t : W.cell? ⟨I.db x.n, 1, none⟩ = some (.pointer (some ⟨I.tb x.th, 0, none⟩))
  f : W.cell? ⟨I.db x.n, 2, none⟩ = some (.int .i64 x.flags)
  p : W.cell? ⟨I.db x.n, 3, none⟩ = some (.int .i64 x.pos)
  h : W.cell? ⟨I.db x.n, 4, none⟩ = some (.int .i64 x.held)
  soft : ∀ j, W.frozen? ⟨I.db x.n, j, none⟩ = false
  lt : x.th < K.th.length
  kind : W.cell? ⟨I.tb x.th, 1, none⟩ = some (.int .i64 (K.tho x).kind)
end Go.Proofs.YtdmkjbdlidadiaaGreat

/- The reference's kernel: CanWrite, Held, Keep. -/
namespace Go.Proofs.YtdmkjbdlidadiaaGreat
open Go.RowKit

end Go.Proofs.YtdmkjbdlidadiaaGreat

/- The reference's kernel: what it is when an object of it turns, when a call is counted, when a fault is used up. -/
namespace Go.Proofs.YtdmkjbdlidadiaaGreat
open Go.RowKit

end Go.Proofs.YtdmkjbdlidadiaaGreat

/- The reference's kernel: Read. -/
namespace Go.Proofs.YtdmkjbdlidadiaaGreat
open Go.RowKit

end Go.Proofs.YtdmkjbdlidadiaaGreat

/- The reference's kernel: room, Seek. -/
namespace Go.Proofs.YtdmkjbdlidadiaaGreat
open Go.RowKit

end Go.Proofs.YtdmkjbdlidadiaaGreat

/- A kernel by the page, as a value: writes, drops, opens, pipes, beginnings. No program. -/
namespace Go.Proofs.YtdmkjbdlidadiaaGreat
open Go.RowKit

def bit (f m : Int) : Bool := !(fbit f m == 0)
def nlt (a b : ByteArray) : Prop := a.data.toList < b.data.toList
instance (a b : ByteArray) : Decidable (nlt a b) := inferInstanceAs (Decidable (a.data.toList < b.data.toList))
structure KNm (K : KS) : Prop where
  sorted : K.nm.Pairwise fun i j => nlt (K.nameOf i) (K.nameOf j)
  kind : ∀ i ∈ K.nm, (K.obOf i).kind = 1 ∨ (K.obOf i).kind = 2
  all : ∀ i, i < K.th.length → (K.obOf i).kind ≠ 3 → i ∈ K.nm
  ok : ∀ i ∈ K.nm, nameOk (K.nameOf i) = true

end Go.Proofs.YtdmkjbdlidadiaaGreat

/- The reference's kernel: Write. -/
namespace Go.Proofs.YtdmkjbdlidadiaaGreat
open Go.RowKit

end Go.Proofs.YtdmkjbdlidadiaaGreat

/- The reference's kernel: Write, to a terminal and to a pipe. -/
namespace Go.Proofs.YtdmkjbdlidadiaaGreat
open Go.RowKit

end Go.Proofs.YtdmkjbdlidadiaaGreat

/- The reference's kernel: Write, to a terminal. -/
namespace Go.Proofs.YtdmkjbdlidadiaaGreat
open Go.RowKit

end Go.Proofs.YtdmkjbdlidadiaaGreat

/- The reference's kernel: Write, to a file. -/
namespace Go.Proofs.YtdmkjbdlidadiaaGreat
open Go.RowKit

end Go.Proofs.YtdmkjbdlidadiaaGreat

/- The reference's kernel: a new description. -/
namespace Go.Proofs.YtdmkjbdlidadiaaGreat
open Go.RowKit

end Go.Proofs.YtdmkjbdlidadiaaGreat

/- Spoil turns the block of its slice, and no other. -/
namespace Go.Proofs.YtdmkjbdlidadiaaGreat
open Go.RowKit

set_option maxRecDepth 100000 in
set_option maxHeartbeats 1000000 in
theorem Kp_spoil_turn (base : Nat) (v : Value) (n : Nat) (xs : List Value) (w : World) (h : w.ownsRow base 5 1 v n xs) (hx : ∀ u ∈ xs, ∃ c, u = .int .u8 c) (hs : n ≤ maxLen) :
    Calls Tryz.prog 32 #[v] w fun e w' => e = .returned (.tuple #[]) ∧ Turned (fun k => v.ownBlock = some k) w w' := by
  unfold maxLen at hs
  rcases h.2 with ⟨rfl, h0⟩ | ⟨g, cap, cur, rfl, hbg, -⟩
  · go_enter Tryz.func32, Tryz.ntmps32
    go_wp2
    go_loopw [2] (fun i wr => i = .int .i64 0 ∧ wr = w) (fun _ _ => 0)
    case atStart => exact ⟨rfl, rfl⟩
    case round =>
      obtain ⟨rfl, rfl⟩ := hrel
      go_wp2
      go_end0
      exact ⟨rfl, Turned.refl _ _⟩
  · have HO := hide h
    have HX := hide hx
    have hlen : xs.length = n := by have := h.1; omega
    clear h hx
    go_enter Tryz.func32, Tryz.ntmps32
    go_wp2
    go_loopw [2] (fun i wr => ∃ (k : Nat) (ys : List Value), k ≤ n ∧ i = .int .i64 k ∧ ys.length = n ∧ (∀ u ∈ ys, ∃ c, u = .int .u8 c) ∧ wr.ownsRow base 5 1 (.slice (some ⟨g, 0, none⟩) n cap) n ys ∧ Turned (fun k => (Value.slice (some ⟨g, 0, none⟩) n cap).ownBlock = some k) w wr) (fun i _ => n - (intOf i).toNat)
    case atStart => exact ⟨0, xs, Nat.zero_le _, rfl, hlen, HX.out, HO.out, Turned.refl _ _⟩
    case round =>
      clear HO HX hlen
      obtain ⟨k, ys, hk, rfl, hlen, hys, hown, hT⟩ := hrel
      have HT := hide hT
      clear hT
      by_cases hlt : k < n
      · obtain ⟨c, hc⟩ := hys ys[k] (List.getElem_mem _)
        have hcell := hown.cellAt k (by omega)
        rw [List.getElem?_eq_getElem (by omega), hc] at hcell
        have hfr := hown.frozenAt k
        have HY := hide hys
        have HO := hide hown
        have HL := hide hlen
        clear hys hown hc hlen
        go_wp2
        go_roundw
        case rel =>
          obtain ⟨hst, hgr⟩ := HO.out.stored k (Value.int .u8 (bits .xor .u8 c 85))
          refine ⟨k + 1, _, by omega, by go_num, ?_, ?_, hst, HT.out.set (.inl rfl)⟩
          · rw [List.length_set]; exact HL.out
          · intro u hu
            rcases List.mem_or_eq_of_mem_set hu with h | h
            · exact HY.out u h
            · exact ⟨_, h⟩
        case measure => simp [intOf]; omega
      · go_wp2
        go_end0
        exact ⟨rfl, HT.out⟩
theorem Kp_bv_ints (l : List UInt8) : ∀ u ∈ l.map bv, ∃ c, u = .int .u8 c := by
  intro u hu
  obtain ⟨c, _, rfl⟩ := List.mem_map.1 hu
  exact ⟨_, rfl⟩
end Go.Proofs.YtdmkjbdlidadiaaGreat

/- The program's files, terminals and pipes in one notion, each within a set of blocks of its own. -/
namespace Go.Proofs.YtdmkjbdlidadiaaGreat
open Go.RowKit

def PObj (W : World) (O : Nat → Prop) (p : Nat) : Ob → Prop
  | .file b => b.length ≤ 1048576 ∧ ∃ r cap, FileAt W p r cap b ∧ O p ∧ O r
  | .term ls scr => ∃ B O1, PTerm W B p O1 ls scr ∧ ∀ k, O1 k → O k
  | .pipe q rd wt => PipeAt W p q rd wt ∧ O p
end Go.Proofs.YtdmkjbdlidadiaaGreat

/- Maps whose values are pointers to blocks: what they hold, as a list of keys and blocks in any order. -/
namespace Go.Proofs.YtdmkjbdlidadiaaGreat
open Go.RowKit Go.Maps

def ptrElem : Value → Option (DataW Unit × List MemPlace)
  | .pointer (some ⟨g, 0, none⟩) => some (.lit (.int .i64 g), [])
  | .pointer none => some (.nil, [])
  | _ => none
structure PMap (W : World) (P : Program) (k : TypeId) (b : Nat) (l : List (Lit × Nat)) : Prop where
  own : ∃ D : DataW Unit, W.ownsMap P k ptrElem b l.length D ∧ Maps.size D = l.length ∧ (∀ p ∈ l, ∀ z, D.atKey p.1 z = .lit (.int .i64 p.2)) ∧ ∀ kl, Maps.has D kl = true → ∃ p ∈ l, p.1 = kl
  nodup : l.Pairwise (fun p q => p.1 ≠ q.1)
end Go.Proofs.YtdmkjbdlidadiaaGreat

/- The program's kernel: what lies in memory for it; isMade, described. -/
namespace Go.Proofs.YtdmkjbdlidadiaaGreat
open Go.RowKit Go.Maps

inductive PTag where
  | kern
  | fmap
  | tmap
  | omap
  | plan
  | obj (i : Nat)
  | cons (i : Nat)
  | desc (n : Nat)
  | ofile (n : Nat)
structure PI where
  kb : Nat
  fm : Nat
  tm : Nat
  om : Nat
  pb : Nat
  pv : Value
  ob : Nat → Nat
  cb : Nat → Nat
  db : Nat → Nat
  xb : Nat → Nat
  last : Nat
def dkey (n : Nat) : Lit := .int .i64 n
def thingV (I : PI) (K : KS) (d : De) : Value := match K.tho d with
  | .file _ => .iface 274 (.pointer (some ⟨I.xb d.n, 0, none⟩))
  | .term _ _ => .iface 112 (.pointer (some ⟨I.cb d.th, 0, none⟩))
  | .pipe _ _ _ => .iface 282 (.agg #[.pointer (some ⟨I.ob d.th, 0, none⟩)])
def PComp (W : World) (ρ : Nat → Option PTag) (I : PI) (K : KS) : PTag → Prop
  | .kern => W.heap[I.kb]? = some (.cells ([.bool true, .map (some I.fm), .map (some I.tm), .map (some I.om), .int .i64 I.last, .pointer (some ⟨I.pb, 0, none⟩), .int .i64 K.reads, .int .i64 K.writes] : List Value).toArray 102 (0, 0)) ∧ ρ I.kb = some .kern ∧ K.next = I.last + 1
  | .fmap => PMap W Tryz.prog 9 I.fm (K.fl I) ∧ ρ I.fm = some .fmap
  | .tmap => PMap W Tryz.prog 9 I.tm (K.tl I) ∧ ρ I.tm = some .tmap
  | .omap => PMap W Tryz.prog 3 I.om (K.dl I) ∧ ρ I.om = some .omap
  | .plan => PlanAt W I.pb I.pv K.plan ∧ ρ I.pb = some .plan ∧ ∀ k, I.pv.ownBlock = some k → ρ k = some .plan
  | .obj i => ∀ (h : i < K.th.length), PObj W (fun k => ρ k = some (.obj i)) (I.ob i) K.th[i].ob
  | .cons i => ∀ (h : i < K.th.length), ∀ ls scr, K.th[i].ob = .term ls scr → W.heap[I.cb i]? = some (.cells ([.pointer (some ⟨I.ob i, 0, none⟩), .int .i64 scr.length] : List Value).toArray 114 (0, 0)) ∧ ρ (I.cb i) = some (.cons i)
  | .desc n => ∀ d ∈ K.de, d.n = n → W.heap[I.db n]? = some (.cells ([thingV I K d, .bool (bit d.flags 1), .bool (bit d.flags 2), .int .i64 d.held] : List Value).toArray 259 (0, 0)) ∧ ρ (I.db n) = some (.desc n)
  | .ofile n => ∀ d ∈ K.de, d.n = n → ∀ b, K.tho d = .file b → W.heap[I.xb n]? = some (.cells ([.pointer (some ⟨I.ob d.th, 0, none⟩), .int .i64 d.pos, .bool (bit d.flags 4)] : List Value).toArray 278 (0, 0)) ∧ ρ (I.xb n) = some (.ofile n)
structure PK (W : World) (ρ : Nat → Option PTag) (I : PI) (K : KS) : Prop where
  comp : ∀ t, PComp W ρ I K t
  lt : ∀ k t, ρ k = some t → k < W.heap.size
  ok : KOk K
  nm : KNm K
structure KCells (W : World) (ρ : Nat → Option PTag) (I : PI) (K : KS) : Prop where
  made : W.cell? ⟨I.kb, 0, none⟩ = some (.bool true)
  files : W.cell? ⟨I.kb, 1, none⟩ = some (.map (some I.fm))
  terms : W.cell? ⟨I.kb, 2, none⟩ = some (.map (some I.tm))
  opens : W.cell? ⟨I.kb, 3, none⟩ = some (.map (some I.om))
  last : W.cell? ⟨I.kb, 4, none⟩ = some (.int .i64 I.last)
  plan : W.cell? ⟨I.kb, 5, none⟩ = some (.pointer (some ⟨I.pb, 0, none⟩))
  reads : W.cell? ⟨I.kb, 6, none⟩ = some (.int .i64 K.reads)
  writes : W.cell? ⟨I.kb, 7, none⟩ = some (.int .i64 K.writes)
end Go.Proofs.YtdmkjbdlidadiaaGreat

/- The program's kernel: described, Kind. -/
namespace Go.Proofs.YtdmkjbdlidadiaaGreat
open Go.RowKit Go.Maps

structure DCells (W : World) (I : PI) (K : KS) (x : De) : Prop where
  thing : W.cell? ⟨I.db x.n, 0, none⟩ = some (thingV I K x)
  reads : W.cell? ⟨I.db x.n, 1, none⟩ = some (.bool (bit x.flags 1))
  writes : W.cell? ⟨I.db x.n, 2, none⟩ = some (.bool (bit x.flags 2))
  held : W.cell? ⟨I.db x.n, 3, none⟩ = some (.int .i64 x.held)
end Go.Proofs.YtdmkjbdlidadiaaGreat

/- The program's kernel: how what lies in memory turns. -/
namespace Go.Proofs.YtdmkjbdlidadiaaGreat
open Go.RowKit Go.Maps

end Go.Proofs.YtdmkjbdlidadiaaGreat

/- The program's kernel: what is done with an open file, a console, a pipe's end. -/
namespace Go.Proofs.YtdmkjbdlidadiaaGreat
open Go.RowKit Go.Maps

def OFc (W : World) (x p pos : Nat) (ap : Bool) : Prop := W.heap[x]? = some (.cells ([.pointer (some ⟨p, 0, none⟩), .int .i64 pos, .bool ap] : List Value).toArray 278 (0, 0))
end Go.Proofs.YtdmkjbdlidadiaaGreat

/- The program's kernel: writes to an open file and to a console; what a pipe's end does. -/
namespace Go.Proofs.YtdmkjbdlidadiaaGreat
open Go.RowKit Go.Maps

end Go.Proofs.YtdmkjbdlidadiaaGreat

/- The program's kernel: a console's refusals, reads and writes. -/
namespace Go.Proofs.YtdmkjbdlidadiaaGreat
open Go.RowKit Go.Maps

end Go.Proofs.YtdmkjbdlidadiaaGreat

/- The program's kernel: what a pipe's end does. -/
namespace Go.Proofs.YtdmkjbdlidadiaaGreat
open Go.RowKit Go.Maps

theorem recv_below (w : World) (o : Obj) : Below w.heap.size w (w.alloc o) := (Below.refl _ _).alloc (Nat.le_refl _) _
end Go.Proofs.YtdmkjbdlidadiaaGreat

/- The reference's kernel: desc. -/
namespace Go.Proofs.YtdmkjbdlidadiaaGreat
open Go.RowKit

end Go.Proofs.YtdmkjbdlidadiaaGreat

/- The reference's kernel: one thing more; Pipe. -/
namespace Go.Proofs.YtdmkjbdlidadiaaGreat
open Go.RowKit

end Go.Proofs.YtdmkjbdlidadiaaGreat

/- The reference's kernel: a thing by its name. -/
namespace Go.Proofs.YtdmkjbdlidadiaaGreat
open Go.RowKit

end Go.Proofs.YtdmkjbdlidadiaaGreat

/- The reference's kernel: a thing is put among the names. -/
namespace Go.Proofs.YtdmkjbdlidadiaaGreat
open Go.RowKit

end Go.Proofs.YtdmkjbdlidadiaaGreat

/- The program's kernel: Read. -/
namespace Go.Proofs.YtdmkjbdlidadiaaGreat
open Go.RowKit Go.Maps

end Go.Proofs.YtdmkjbdlidadiaaGreat

/- The program's kernel: what is written to a thing. -/
namespace Go.Proofs.YtdmkjbdlidadiaaGreat
open Go.RowKit Go.Maps

end Go.Proofs.YtdmkjbdlidadiaaGreat

/- The program's kernel: Seek, Keep. -/
namespace Go.Proofs.YtdmkjbdlidadiaaGreat
open Go.RowKit Go.Maps

end Go.Proofs.YtdmkjbdlidadiaaGreat

/- The program's kernel: Keep, Drop. -/
namespace Go.Proofs.YtdmkjbdlidadiaaGreat
open Go.RowKit Go.Maps

end Go.Proofs.YtdmkjbdlidadiaaGreat

/- The program's kernel: Drop, CanRead, CanWrite. -/
namespace Go.Proofs.YtdmkjbdlidadiaaGreat
open Go.RowKit Go.Maps

end Go.Proofs.YtdmkjbdlidadiaaGreat

/- The program's kernel: new things and new descriptions. -/
namespace Go.Proofs.YtdmkjbdlidadiaaGreat
open Go.RowKit Go.Maps

structure More (K K' : KS) (t : Th) : Prop where
  th : K'.th = K.th ++ [t]
  de : K'.de = K.de
  next : K'.next = K.next
  plan : K'.plan = K.plan
  reads : K'.reads = K.reads
  writes : K'.writes = K.writes
structure Described (w : World) (I : PI) (K : KS) (tv : Value) (flags : Int) (nb : Nat) (w' : World) : Prop where
  new : w.heap.size ≤ nb
  desc : w'.heap[nb]? = some (.cells ([tv, .bool (bit flags 1), .bool (bit flags 2), .int .i64 (1 : Nat)] : List Value).toArray 259 (0, 0))
  kern : w'.heap[I.kb]? = some (.cells ([.bool true, .map (some I.fm), .map (some I.tm), .map (some I.om), .int .i64 ((I.last + 1 : Nat) : Int), .pointer (some ⟨I.pb, 0, none⟩), .int .i64 K.reads, .int .i64 K.writes] : List Value).toArray 102 (0, 0))
  map : PMap w' Tryz.prog 3 I.om ((dkey (I.last + 1), nb) :: K.dl I)
  turned : Turned (fun k => k = I.kb ∨ k = I.om) w w'
end Go.Proofs.YtdmkjbdlidadiaaGreat

/- The program's kernel: describe. -/
namespace Go.Proofs.YtdmkjbdlidadiaaGreat
open Go.RowKit Go.Maps

end Go.Proofs.YtdmkjbdlidadiaaGreat

/- The program's kernel: new files. -/
namespace Go.Proofs.YtdmkjbdlidadiaaGreat
open Go.RowKit Go.Maps

end Go.Proofs.YtdmkjbdlidadiaaGreat

/- The reference's kernel: Open. -/
namespace Go.Proofs.YtdmkjbdlidadiaaGreat
open Go.RowKit

end Go.Proofs.YtdmkjbdlidadiaaGreat

/- The reference's kernel: Open, of a name that is there. -/
namespace Go.Proofs.YtdmkjbdlidadiaaGreat
open Go.RowKit

end Go.Proofs.YtdmkjbdlidadiaaGreat

/- The program's kernel: thingFor. -/
namespace Go.Proofs.YtdmkjbdlidadiaaGreat
open Go.RowKit Go.Maps

structure Fits (w : World) (ρ : Nat → Option PTag) (I : PI) (K : KS) (i : Nat) (flags : Int) (tv : Value) (xb : Nat) : Prop where
  lt : i < K.th.length
  file : ∀ b, K.obOf i = .file b → tv = .iface 274 (.pointer (some ⟨xb, 0, none⟩)) ∧ OFc w xb (I.ob i) 0 (bit flags 4) ∧ ρ xb = none
  term : ∀ ls scr, K.obOf i = .term ls scr → tv = .iface 112 (.pointer (some ⟨I.cb i, 0, none⟩))
  pipe : ∀ q rd wt, K.obOf i = .pipe q rd wt → tv = .iface 282 (.agg #[.pointer (some ⟨I.ob i, 0, none⟩)])
end Go.Proofs.YtdmkjbdlidadiaaGreat

/- The program's kernel: thingFor, walked. -/
namespace Go.Proofs.YtdmkjbdlidadiaaGreat
open Go.RowKit Go.Maps

end Go.Proofs.YtdmkjbdlidadiaaGreat

/- The program's kernel: thingFor, where a file is made. -/
namespace Go.Proofs.YtdmkjbdlidadiaaGreat
open Go.RowKit Go.Maps

end Go.Proofs.YtdmkjbdlidadiaaGreat

/- The program's kernel: nameMayBe, flagsMayBe. -/
namespace Go.Proofs.YtdmkjbdlidadiaaGreat
open Go.RowKit Go.Maps
set_option linter.unusedSimpArgs false

end Go.Proofs.YtdmkjbdlidadiaaGreat

/- The program's kernel: Open. -/
namespace Go.Proofs.YtdmkjbdlidadiaaGreat
open Go.RowKit Go.Maps

end Go.Proofs.YtdmkjbdlidadiaaGreat

/- The program's kernel: give. -/
namespace Go.Proofs.YtdmkjbdlidadiaaGreat
open Go.RowKit Go.Maps

end Go.Proofs.YtdmkjbdlidadiaaGreat

/- The program's kernel: Check. -/
namespace Go.Proofs.YtdmkjbdlidadiaaGreat
open Go.RowKit Go.Maps

end Go.Proofs.YtdmkjbdlidadiaaGreat

/- The program's kernel as it is being made: without its plan. -/
namespace Go.Proofs.YtdmkjbdlidadiaaGreat
open Go.RowKit Go.Maps

structure PX (W : World) (ρ : Nat → Option PTag) (I : PI) (K : KS) : Prop where
  comp : ∀ t, t ≠ .kern → t ≠ .plan → PComp W ρ I K t
  lt : ∀ k t, ρ k = some t → k < W.heap.size
  ok : KOk K
  nm : KNm K
end Go.Proofs.YtdmkjbdlidadiaaGreat

/- The program's kernel as it is being made: how it begins, and how files and terminals come to it. -/
namespace Go.Proofs.YtdmkjbdlidadiaaGreat
open Go.RowKit Go.Maps

def KB0 (W : World) (I : PI) : Prop := W.heap[I.kb]? = some (.cells ([.bool true, .map (some I.fm), .map (some I.tm), .map (some I.om), .int .i64 (0 : Nat), .pointer none, .int .i64 (0 : Nat), .int .i64 (0 : Nat)] : List Value).toArray 102 (0, 0))
structure PY (W : World) (B : Nat) (ρ : Nat → Option PTag) (I : PI) (K : KS) (k0 f0 t0 o0 : Nat) : Prop where
  px : PX W ρ I K
  blk : KB0 W I
  kern : ρ I.kb = some .kern
  kb : I.kb = k0
  fm : I.fm = f0
  tm : I.tm = t0
  om : I.om = o0
  last : I.last = 0
  low : ∀ k t, ρ k = some t → B ≤ k
end Go.Proofs.YtdmkjbdlidadiaaGreat

/- The program's kernel: New. -/
namespace Go.Proofs.YtdmkjbdlidadiaaGreat
open Go.RowKit Go.Maps

structure Seen (K : KS) (ns : List ByteArray) (n : Nat) : Prop where
  names : ∀ i ∈ K.nm, K.nameOf i ∈ ns
  len : K.nm.length = n
  next : K.next = 1 ∧ K.reads = 0 ∧ K.writes = 0
end Go.Proofs.YtdmkjbdlidadiaaGreat

/- The reference's kernel: New. -/
namespace Go.Proofs.YtdmkjbdlidadiaaGreat
open Go.RowKit

end Go.Proofs.YtdmkjbdlidadiaaGreat

/- Lines, and steps, that came in as an argument: what a walk is told of them. -/
namespace Go.Proofs.YtdmkjbdlidadiaaGreat
open Go.ChangeShapes Go.WideShapes Go.ChangeAt Go.RowKit Go.Deep

end Go.Proofs.YtdmkjbdlidadiaaGreat

/- Faults, and ints, that came in as an argument: what a walk is told of them. -/
namespace Go.Proofs.YtdmkjbdlidadiaaGreat
open Go.ChangeShapes Go.WideShapes Go.ChangeAt Go.RowKit Go.Deep

end Go.Proofs.YtdmkjbdlidadiaaGreat

/- Files, terminals, steps and setups that came in as an argument: what a walk is told of them, and their sizes. -/
namespace Go.Proofs.YtdmkjbdlidadiaaGreat
open Go.ChangeShapes Go.WideShapes Go.ChangeAt Go.RowKit Go.Deep

structure KSt where
  what : Int
  name : ByteArray
  a : Int
  b : Int
  c : Int
  data : List UInt8
  deriving Inhabited
end Go.Proofs.YtdmkjbdlidadiaaGreat

/- The program's kernel: Read, walked. -/
namespace Go.Proofs.YtdmkjbdlidadiaaGreat
open Go.RowKit Go.Maps

end Go.Proofs.YtdmkjbdlidadiaaGreat

/- The program's kernel: Pipe. -/
namespace Go.Proofs.YtdmkjbdlidadiaaGreat
open Go.RowKit Go.Maps

end Go.Proofs.YtdmkjbdlidadiaaGreat

/- The program's kernel: Pipe, walked. -/
namespace Go.Proofs.YtdmkjbdlidadiaaGreat
open Go.RowKit Go.Maps

end Go.Proofs.YtdmkjbdlidadiaaGreat

/- The program's kernel: CanRead, CanWrite. -/
namespace Go.Proofs.YtdmkjbdlidadiaaGreat
open Go.RowKit Go.Maps

end Go.Proofs.YtdmkjbdlidadiaaGreat

/- The program's kernel: Write, walked. -/
namespace Go.Proofs.YtdmkjbdlidadiaaGreat
open Go.RowKit Go.Maps

end Go.Proofs.YtdmkjbdlidadiaaGreat

/- The program's kernel within a set of blocks: each call. -/
namespace Go.Proofs.YtdmkjbdlidadiaaGreat
open Go.RowKit Go.Maps

end Go.Proofs.YtdmkjbdlidadiaaGreat

/- A law's setup, copied for the program; how far a kernel's numbers go up by a call. -/
namespace Go.Proofs.YtdmkjbdlidadiaaGreat
open Go.RowKit Go.Maps

end Go.Proofs.YtdmkjbdlidadiaaGreat

/- Contracts of Go's library on the keys of a map, sorted, at this dump, laid by the kit's own command. -/
namespace Go.Proofs
open Go.RowKit Go.Maps Go.Sort Go.Shelf
def Tryz.keys178_ren : Go.Shelf.Ren := ⟨fun | 7 => 178 | 10 => 227 | n => n, fun | 23 => 97 | 26 => 9 | 3 => 105 | 28 => 289 | 0 => 0 | 27 => 288 | 33 => 118 | 4 => 4 | n => n, fun | n => n⟩
theorem Tryz.keys178 : Go.Proofs.SlLaysZ.n7 Tryz.prog Tryz.keys178_ren := {
  mixed := by kernel_rfl
  f7 := ⟨Tryz.f178.name, by decide, Tryz.func178.trans (congrArg some (by kernel_rfl))⟩
  f10 := ⟨Tryz.f227.name, by decide, Tryz.func227.trans (congrArg some (by kernel_rfl))⟩
  t0 := Tryz.underlying0
  a0 := Tryz.isAgg0
  z0 := Tryz.sizeOf0
  v0 := Tryz.zeroValue0
  t4 := Tryz.underlying4
  a4 := Tryz.isAgg4
  z4 := Tryz.sizeOf4
  v4 := Tryz.zeroValue4
  t23 := Tryz.underlying97
  a23 := Tryz.isAgg97
  z23 := Tryz.sizeOf97
  v23 := Tryz.zeroValue97
  t26 := Tryz.underlying9
  a26 := Tryz.isAgg9
  z26 := Tryz.sizeOf9
  v26 := Tryz.zeroValue9
  t27 := Tryz.underlying288
  a27 := Tryz.isAgg288
  z27 := Tryz.sizeOf288
  v27 := Tryz.zeroValue288
  t28 := Tryz.underlying289
  a28 := Tryz.isAgg289
  z28 := Tryz.sizeOf289
  v28 := Tryz.zeroValue289
  t33 := Tryz.underlying118
  a33 := Tryz.isAgg118
  z33 := Tryz.sizeOf118
  v33 := Tryz.zeroValue118 }
def Tryz.sorted177_ren : Go.Shelf.Ren := ⟨fun | 6 => 177 | 8 => 225 | 9 => 226 | 11 => 242 | 13 => 244 | 12 => 243 | 23 => 260 | 24 => 261 | 14 => 251 | 15 => 252 | 16 => 253 | 17 => 254 | 18 => 255 | 19 => 256 | 20 => 257 | 21 => 258 | 22 => 259 | 25 => 279 | 26 => 280 | 27 => 281 | 28 => 282 | 29 => 283 | 30 => 284 | 31 => 285 | n => n, fun | 26 => 9 | 28 => 289 | 24 => 117 | 0 => 0 | 3 => 3 | 37 => 355 | 48 => 375 | 50 => 377 | 4 => 4 | 40 => 368 | 39 => 367 | 45 => 216 | 5 => 5 | 9 => 9 | 51 => 378 | 55 => 333 | 57 => 383 | 58 => 121 | 33 => 118 | n => n, fun | n => n⟩
theorem Tryz.sorted177 : Go.Proofs.SlLaysZ.n6 Tryz.prog Tryz.sorted177_ren := {
  mixed := by kernel_rfl
  f6 := ⟨Tryz.f177.name, by decide, Tryz.func177.trans (congrArg some (by kernel_rfl))⟩
  f8 := ⟨Tryz.f225.name, by decide, Tryz.func225.trans (congrArg some (by kernel_rfl))⟩
  f11 := ⟨Tryz.f242.name, by decide, Tryz.func242.trans (congrArg some (by kernel_rfl))⟩
  t0 := Tryz.underlying0
  a0 := Tryz.isAgg0
  z0 := Tryz.sizeOf0
  v0 := Tryz.zeroValue0
  t24 := Tryz.underlying117
  a24 := Tryz.isAgg117
  z24 := Tryz.sizeOf117
  v24 := Tryz.zeroValue117
  t26 := Tryz.underlying9
  a26 := Tryz.isAgg9
  z26 := Tryz.sizeOf9
  v26 := Tryz.zeroValue9
  t28 := Tryz.underlying289
  a28 := Tryz.isAgg289
  z28 := Tryz.sizeOf289
  v28 := Tryz.zeroValue289
  i26 := by kernel_rfl }
def Tryz.sort226_ren : Go.Shelf.Ren := ⟨fun | 6 => 226 | 8 => 244 | 9 => 243 | 19 => 260 | 20 => 261 | 21 => 251 | 22 => 252 | 23 => 253 | 24 => 254 | 25 => 255 | 26 => 256 | 27 => 257 | 28 => 258 | 29 => 259 | 36 => 279 | 31 => 280 | 32 => 281 | 37 => 282 | 38 => 283 | 39 => 284 | 41 => 285 | n => n, fun | 27 => 117 | 29 => 9 | 3 => 3 | 32 => 355 | 26 => 117 | 0 => 0 | 44 => 375 | 46 => 377 | 4 => 4 | 36 => 368 | 35 => 367 | 41 => 216 | 5 => 5 | 9 => 9 | 53 => 378 | 57 => 333 | 63 => 383 | 64 => 121 | n => n, fun | n => n⟩
theorem Tryz.sort226 : Go.Proofs.SlLaysM.n6 Tryz.prog Tryz.sort226_ren := {
  mixed := by kernel_rfl
  f6 := ⟨Tryz.f226.name, by decide, Tryz.func226.trans (congrArg some (by kernel_rfl))⟩
  f8 := Tryz.func244.trans (congrArg some (by kernel_rfl))
  f9 := ⟨Tryz.f243.name, by decide, Tryz.func243.trans (congrArg some (by kernel_rfl))⟩
  f19 := Tryz.func260.trans (congrArg some (by kernel_rfl))
  f20 := Tryz.func261.trans (congrArg some (by kernel_rfl))
  f21 := ⟨Tryz.f251.name, by decide, Tryz.func251.trans (congrArg some (by kernel_rfl))⟩
  f22 := ⟨Tryz.f252.name, by decide, Tryz.func252.trans (congrArg some (by kernel_rfl))⟩
  f23 := ⟨Tryz.f253.name, by decide, Tryz.func253.trans (congrArg some (by kernel_rfl))⟩
  f24 := ⟨Tryz.f254.name, by decide, Tryz.func254.trans (congrArg some (by kernel_rfl))⟩
  f25 := ⟨Tryz.f255.name, by decide, Tryz.func255.trans (congrArg some (by kernel_rfl))⟩
  f26 := ⟨Tryz.f256.name, by decide, Tryz.func256.trans (congrArg some (by kernel_rfl))⟩
  f27 := ⟨Tryz.f257.name, by decide, Tryz.func257.trans (congrArg some (by kernel_rfl))⟩
  f28 := ⟨Tryz.f258.name, by decide, Tryz.func258.trans (congrArg some (by kernel_rfl))⟩
  f29 := ⟨Tryz.f259.name, by decide, Tryz.func259.trans (congrArg some (by kernel_rfl))⟩
  f31 := Tryz.func280.trans (congrArg some (by kernel_rfl))
  f32 := Tryz.func281.trans (congrArg some (by kernel_rfl))
  f36 := ⟨Tryz.f279.name, by decide, Tryz.func279.trans (congrArg some (by kernel_rfl))⟩
  f37 := ⟨Tryz.f282.name, by decide, Tryz.func282.trans (congrArg some (by kernel_rfl))⟩
  f38 := ⟨Tryz.f283.name, by decide, Tryz.func283.trans (congrArg some (by kernel_rfl))⟩
  f39 := ⟨Tryz.f284.name, by decide, Tryz.func284.trans (congrArg some (by kernel_rfl))⟩
  f41 := ⟨Tryz.f285.name, by decide, Tryz.func285.trans (congrArg some (by kernel_rfl))⟩
  t0 := Tryz.underlying0
  a0 := Tryz.isAgg0
  z0 := Tryz.sizeOf0
  v0 := Tryz.zeroValue0
  t3 := Tryz.underlying3
  a3 := Tryz.isAgg3
  z3 := Tryz.sizeOf3
  v3 := Tryz.zeroValue3
  t4 := Tryz.underlying4
  a4 := Tryz.isAgg4
  z4 := Tryz.sizeOf4
  v4 := Tryz.zeroValue4
  t5 := Tryz.underlying5
  a5 := Tryz.isAgg5
  z5 := Tryz.sizeOf5
  v5 := Tryz.zeroValue5
  t9 := Tryz.underlying9
  a9 := Tryz.isAgg9
  z9 := Tryz.sizeOf9
  v9 := Tryz.zeroValue9
  t26 := Tryz.underlying117
  a26 := Tryz.isAgg117
  z26 := Tryz.sizeOf117
  v26 := Tryz.zeroValue117
  t27 := Tryz.underlying117
  a27 := Tryz.isAgg117
  z27 := Tryz.sizeOf117
  v27 := Tryz.zeroValue117
  t29 := Tryz.underlying9
  a29 := Tryz.isAgg9
  z29 := Tryz.sizeOf9
  v29 := Tryz.zeroValue9
  t32 := Tryz.underlying355
  a32 := Tryz.isAgg355
  z32 := Tryz.sizeOf355
  v32 := Tryz.zeroValue355
  t35 := Tryz.underlying367
  a35 := Tryz.isAgg367
  z35 := Tryz.sizeOf367
  v35 := Tryz.zeroValue367
  t36 := Tryz.underlying368
  a36 := Tryz.isAgg368
  z36 := Tryz.sizeOf368
  v36 := Tryz.zeroValue368
  t41 := Tryz.underlying216
  a41 := Tryz.isAgg216
  z41 := Tryz.sizeOf216
  v41 := Tryz.zeroValue216
  t44 := Tryz.underlying375
  a44 := Tryz.isAgg375
  z44 := Tryz.sizeOf375
  v44 := Tryz.zeroValue375
  t46 := Tryz.underlying377
  a46 := Tryz.isAgg377
  z46 := Tryz.sizeOf377
  v46 := Tryz.zeroValue377
  t53 := Tryz.underlying378
  a53 := Tryz.isAgg378
  z53 := Tryz.sizeOf378
  v53 := Tryz.zeroValue378
  t57 := Tryz.underlying333
  a57 := Tryz.isAgg333
  z57 := Tryz.sizeOf333
  v57 := Tryz.zeroValue333
  t63 := Tryz.underlying383
  a63 := Tryz.isAgg383
  z63 := Tryz.sizeOf383
  v63 := Tryz.zeroValue383
  t64 := Tryz.underlying121
  a64 := Tryz.isAgg121
  z64 := Tryz.sizeOf121
  v64 := Tryz.zeroValue121 }

theorem Tryz.sorts177 (m : Nat) : AnyZ.SortsIn Tryz.prog Tryz.sorted177_ren Fence.wide m :=
  ⟨fun blk off cap ss W hH hblk hsz => callsIn_wide.2 (AnyM.slices_Sort_string Tryz.sort226 blk off cap ss W hH hblk hsz),
   fun p cap W => callsIn_wide.2 (AnyM.slices_Sort_string_none Tryz.sort226 p cap W)⟩
theorem Tryz.maps_Keys_178 (mb : Option Nat) (W : World) : CallsIn Fence.wide 5 Tryz.prog 178 #[.map mb] W fun e w' => e = .returned (.func (.func 227) #[] #[.pointer (some ⟨W.heap.size, 0, none⟩)]) ∧ w' = W.alloc (.cells #[.map mb] 97) :=
  AnyZ.keys_in Tryz.keys178 Fence.wide 5 trivial rfl mb W
set_option maxHeartbeats 1000000 in
theorem Tryz.slices_Sorted_keys_177_178 {H : Type} (b nn : Nat) (D0 : DataW H) (R : Value → Option (DataW H × List MemPlace)) (w : World) (hown : w.ownsMap Tryz.prog 9 R b nn D0) (hmax : Maps.size D0 ≤ maxLen) (hbytes : Maps.size D0 * 16 ≤ 140737488355328) :
    CallsIn Fence.wide 5 Tryz.prog 177 #[.func (.func 227) #[] #[.pointer (some ⟨w.heap.size, 0, none⟩)]] (w.alloc (.cells #[.map (some b)] 97)) fun e w' => ∃ (v : Value) (ss : List (List UInt8)), e = .returned v ∧ ss.Perm (strKeys D0) ∧
      w'.ownsRow (w.alloc (.cells #[.map (some b)] 97)).heap.size 9 1 v ss.length ((ss.mergeSort (fun x y => decide (x ≤ y))).map encStr) ∧ (v = .slice none 0 0 ↔ ss = []) ∧ Below (w.alloc (.cells #[.map (some b)] 97)).heap.size (w.alloc (.cells #[.map (some b)] 97)) w' := by
  have hbl := hown.lt
  have hseq : SeqGives Fence.wide 2 Tryz.prog 227 #[.pointer (some ⟨w.heap.size, 0, none⟩)] encStr (fun ss => ss.Perm (strKeys D0)) (Maps.size D0) (w.alloc (.cells #[.map (some b)] 97)) :=
    AnyZ.keys_gives (ρ := Tryz.keys178_ren) { Tryz.keys178 with } Fence.wide _ trivial rfl (by omega) w.heap.size b nn D0 _ (by simp) (by simp) (by
      obtain ⟨es, clock, hb, Ft, hs, hD⟩ := hown
      exact ⟨es, clock, (Below.heap_alloc _ _ b hbl).trans hb, Ft, hs, hD⟩)
  exact AnyZ.sorted_in Tryz.sorted177 Fence.wide 5 trivial trivial trivial trivial rfl (by omega) (Tryz.sorts177 _) (enters_of Tryz.func226 (by kernel_rfl) rfl) 227 #[.pointer (some ⟨w.heap.size, 0, none⟩)] trivial (enters_of Tryz.func227 (by kernel_rfl) rfl) _ _ hmax hbytes _ hseq
set_option maxHeartbeats 1000000 in
theorem Tryz.slices_Sorted_keys_nil_177_178 (w : World) :
    CallsIn Fence.wide 5 Tryz.prog 177 #[.func (.func 227) #[] #[.pointer (some ⟨w.heap.size, 0, none⟩)]] (w.alloc (.cells #[.map none] 97)) fun e w' => ∃ (v : Value) (ss : List (List UInt8)), e = .returned v ∧ ss = [] ∧
      w'.ownsRow (w.alloc (.cells #[.map none] 97)).heap.size 9 1 v ss.length ((ss.mergeSort (fun x y => decide (x ≤ y))).map encStr) ∧ (v = .slice none 0 0 ↔ ss = []) ∧ Below (w.alloc (.cells #[.map none] 97)).heap.size (w.alloc (.cells #[.map none] 97)) w' := by
  have hseq : SeqGives Fence.wide 2 Tryz.prog 227 #[.pointer (some ⟨w.heap.size, 0, none⟩)] encStr (fun ss : List (List UInt8) => ss = []) 0 (w.alloc (.cells #[.map none] 97)) :=
    AnyZ.keys_gives_nil (ρ := Tryz.keys178_ren) { Tryz.keys178 with } Fence.wide _ trivial rfl w.heap.size _ (by simp) (by simp)
  exact AnyZ.sorted_in Tryz.sorted177 Fence.wide 5 trivial trivial trivial trivial rfl (by omega) (Tryz.sorts177 _) (enters_of Tryz.func226 (by kernel_rfl) rfl) 227 #[.pointer (some ⟨w.heap.size, 0, none⟩)] trivial (enters_of Tryz.func227 (by kernel_rfl) rfl) _ 0 (Nat.zero_le _) (by omega) _ hseq
end Go.Proofs

/- Files: all files by name. -/
namespace Go.Proofs.YtdmkjbdlidadiaaGreat
open Go.RowKit Go.Maps

end Go.Proofs.YtdmkjbdlidadiaaGreat

/- The reference's kernel: Files. -/
namespace Go.Proofs.YtdmkjbdlidadiaaGreat
open Go.RowKit

end Go.Proofs.YtdmkjbdlidadiaaGreat

/- The reference's kernel: Screens. -/
namespace Go.Proofs.YtdmkjbdlidadiaaGreat
open Go.RowKit

end Go.Proofs.YtdmkjbdlidadiaaGreat

/- The reference's kernel: Drop. -/
namespace Go.Proofs.YtdmkjbdlidadiaaGreat
open Go.RowKit

end Go.Proofs.YtdmkjbdlidadiaaGreat

/- The page's kernel of a setup. -/
namespace Go.Proofs.YtdmkjbdlidadiaaGreat
open Go.RowKit

end Go.Proofs.YtdmkjbdlidadiaaGreat

/- The reference's kernel within a set of blocks: what each call leaves of it, and of all else. -/
namespace Go.Proofs.YtdmkjbdlidadiaaGreat
open Go.RowKit

end Go.Proofs.YtdmkjbdlidadiaaGreat

/- The law's examples. -/
namespace Go.Proofs.YtdmkjbdlidadiaaGreat
open Go.RowKit Go.Maps

end Go.Proofs.YtdmkjbdlidadiaaGreat

/- KernPlace: the kernel's states, as values. -/
namespace Go.Proofs.YtdmkjbdlidadiaaGreat
open Go.RowKit Go.Maps

end Go.Proofs.YtdmkjbdlidadiaaGreat

/- KernSays: what a read, a write and the questions ahead of them say, as values. No program. -/
namespace Go.Proofs.YtdmkjbdlidadiaaGreat
open Go.RowKit

end Go.Proofs.YtdmkjbdlidadiaaGreat

/- KernPieces: the kernel's states, as values. -/
namespace Go.Proofs.YtdmkjbdlidadiaaGreat
open Go.RowKit Go.Maps

end Go.Proofs.YtdmkjbdlidadiaaGreat

/- Handles: their calls, those of no kernel, and two kernels side by side. -/
namespace Go.Proofs.YtdmkjbdlidadiaaGreat
open Go.RowKit Go.Maps

end Go.Proofs.YtdmkjbdlidadiaaGreat

/- The program's kernel and the reference's, side by side. -/
namespace Go.Proofs.YtdmkjbdlidadiaaGreat
open Go.RowKit

end Go.Proofs.YtdmkjbdlidadiaaGreat

/- KernPlays: a call by both. -/
namespace Go.Proofs.YtdmkjbdlidadiaaGreat
open Go.RowKit Go.Maps

structure StIn (B : Nat) (W : World) (x : KSt) (va : Option Addr) (vc : Nat) : Prop where
  by' : Bys W (.slice va x.data.length vc) x.data
  cap : x.data.length ≤ vc
  name : x.name.size ≤ maxLen
  a : I64 x.a
  b : I64 x.b
  c : I64 x.c
  few : x.data.length ≤ 140737488351232
  low : 0 < x.data.length → ∀ k, (Value.slice va x.data.length vc).ownBlock = some k → k < B
end Go.Proofs.YtdmkjbdlidadiaaGreat

/- KernPlays: Read and Write by both. -/
namespace Go.Proofs.YtdmkjbdlidadiaaGreat
open Go.RowKit Go.Maps

end Go.Proofs.YtdmkjbdlidadiaaGreat

/- The reference's memories: Read, Write, Seek. -/
namespace Go.Proofs.YtdmkjbdlidadiaaGreat
open Go.RowKit

def RMStep (w : World) (O : Nat → Prop) (g : Nat) (kind : Int) (S : MS) (w' : World) : Prop := ∃ O', RMemAt w' O' g kind S ∧ (∀ k, O' k → O k ∨ w.heap.size ≤ k) ∧ Turned O w w'
theorem RMemAt.tick {W : World} {O : Nat → Prop} {g : Nat} {kind : Int} {S : MS} {a : Option Addr} {c : Nat} {m : Int} (h1 : W.heap[g]? = some (.cells (rmc kind (.slice a S.l.length c) S.room S.pl (.slice none 0 0) (.slice none 0 0) m) 196))
    (hr : W.ownsRow 0 5 1 (.slice a S.l.length c) S.l.length (S.l.map bv)) (hb : ∀ k, (Value.slice a S.l.length c).ownBlock = some k → O k ∧ k ≠ g) (m' : Int) :
    (W.setCell ⟨g, 8, none⟩ (.int .i64 m')).heap[g]? = some (.cells (rmc kind (.slice a S.l.length c) S.room S.pl (.slice none 0 0) (.slice none 0 0) m') 196) ∧ (W.setCell ⟨g, 8, none⟩ (.int .i64 m')).ownsRow 0 5 1 (.slice a S.l.length c) S.l.length (S.l.map bv) ∧ Turned (fun k => k = g) W (W.setCell ⟨g, 8, none⟩ (.int .i64 m')) :=
  have hT : Turned (fun k => k = g) W (W.setCell ⟨g, 8, none⟩ (.int .i64 m')) := Turned.set (S := fun k => k = g) (Turned.refl _ _) (.inl rfl)
  ⟨Go.heap_setCell_same W g 8 _ _ (.int .i64 m') h1, owns_turned hr hT (fun k e => (hb k e).2), hT⟩
set_option maxRecDepth 100000 in
set_option maxHeartbeats 2000000 in
theorem rrmread_any (O : Nat → Prop) (g : Nat) (kind n : Int) (S : MS) (w : World) (h : RMemAt w O g kind S) (hk : kind = 1 ∨ kind = 2 ∨ kind = 3) :
    Calls Tryz.prog 234 #[.pointer (some ⟨g, 0, none⟩), .int .i64 n] w fun e w' => ∃ v, e = .returned (.tuple #[v, .int .i64 (S.read n).2.1]) ∧ Bys w' v (S.read n).1 ∧ RMemAt w' O g kind (S.read n).2.2 ∧ Turned O w w' := by
  obtain ⟨a, c, m, h1, hr, hb, og, z1, z2, z3⟩ := h
  have hk5 : (kind == 5) = false := by rcases hk with rfl | rfl | rfl <;> rfl
  have hk4 : (kind == 4) = false := by rcases hk with rfl | rfl | rfl <;> rfl
  have q0 : w.cell? ⟨g, 0, none⟩ = some (.int .i64 kind) := cell_of_row w g 0 _ _ _ h1
  have q8 : w.cell? ⟨g, 8, none⟩ = some (.int .i64 m) := cell_of_row w g 8 _ _ _ h1
  have s8 := frozen_of_row w g 8 _ _ h1
  have HT := hide (RMemAt.tick h1 hr hb (wrap64 (m + 1)))
  have r0 : ∀ c', (w.setCell ⟨g, 8, none⟩ (.int .i64 c')).cell? ⟨g, 0, none⟩ = some (.int .i64 kind) := fun c' => cell_of_row _ g 0 _ _ _ (RMemAt.tick h1 hr hb c').1
  have r1 : ∀ c', (w.setCell ⟨g, 8, none⟩ (.int .i64 c')).cell? ⟨g, 1, none⟩ = some (.slice a S.l.length c) := fun c' => cell_of_row _ g 1 _ _ _ (RMemAt.tick h1 hr hb c').1
  have r3 : ∀ c', (w.setCell ⟨g, 8, none⟩ (.int .i64 c')).cell? ⟨g, 3, none⟩ = some (.int .i64 S.pl) := fun c' => cell_of_row _ g 3 _ _ _ (RMemAt.tick h1 hr hb c').1
  have HB := hide hb
  clear h1 hr hb hk
  unfold MS.read
  by_cases hR : inR n = true
  · rw [if_pos hR]
    obtain ⟨N, rfl⟩ : ∃ N : Nat, n = N := ⟨n.toNat, by simp [inR] at hR; omega⟩
    have hN : N ≤ 1048576 := by simp [inR] at hR; omega
    clear hR
    simp only [Int.toNat_natCast]
    rcases Nat.eq_zero_or_pos N with rfl | hp
    · have hp0 : piece S.l S.pl 0 = [] := by simp [piece]
      rw [hp0]
      go_enter Tryz.func234, Tryz.ntmps234
      go_wp2
      go_ret2
      exact ⟨_, rfl, .inl ⟨rfl, rfl⟩, ⟨a, c, _, HT.out.1, HT.out.2.1, HB.out, og, z1, z2, z3⟩, HT.out.2.2.mono (fun k e => by rw [e]; exact og)⟩
    · have e1 : ¬ (N : Int) < 0 := by omega
      have e2 : ¬ 1048576 < (N : Int) := by omega
      have e3 : ((N : Int) == 0) = false := by simp; omega
      have HP := hide (fun W hW => piece_any 0 (.slice a S.l.length c) S.l S.pl N W hW (by omega) (by omega) hN)
      have hpl : S.l.length < S.pl ∨ S.pl + (piece S.l S.pl N).length ≤ S.l.length := by have := piece_len S.l S.pl N; omega
      have hpz : S.pl + (piece S.l S.pl N).length ≤ S.room := by have := piece_len S.l S.pl N; omega
      clear hpl
      generalize piece S.l S.pl N = Y at *
      go_enter Tryz.func234, Tryz.ntmps234
      go_wp2_with fail
      have k1 := r1 (wrap64 (m + 1))
      have k3 := r3 (wrap64 (m + 1))
      clear r0 r1 r3 q0 q8 s8
      generalize w.setCell ⟨g, 8, none⟩ (.int .i64 (wrap64 (m + 1))) = wa at *
      have hgl : g < wa.heap.size := World.block_lt_of_cell? wa _ k1
      have HC := hide (HP.out wa.drew (owns_below HT.out.2.1 (Below.refl _ _).drew))
      go_region_held3 (fun w' => w'.cell? ⟨g, 1, none⟩ = some (.slice a S.l.length c) ∧ w'.cell? ⟨g, 3, none⟩ = some (.int .i64 S.pl))
        (first | exact K2 | exact ⟨k1, k3⟩ | go_keep)
        (first
          | (go_at_call 166; refine HC.out.mono ?_; rintro _ w2 ⟨v, rfl, hown, hB2⟩; obtain ⟨va, vc, rfl⟩ := owns_slice hown; have K2 : w2.cell? ⟨g, 1, none⟩ = some (.slice a S.l.length c) ∧ w2.cell? ⟨g, 3, none⟩ = some (.int .i64 S.pl) := ⟨(hB2.cell (p := ⟨g, 1, none⟩) hgl).trans k1, (hB2.cell (p := ⟨g, 3, none⟩) hgl).trans k3⟩)
          | fail)
      have g2 := (hB2.block g hgl).trans HT.out.1
      have f3 := frozen_of_row w2 g 3 _ _ g2
      obtain ⟨K21, K23⟩ := K2
      have HG2 := hide g2
      have HO := hide hown
      have HB2 := hide hB2
      clear hown hB2 g2 k1 k3
      go_wp2
      go_ret2
      have hT5 : Turned (fun k => k = g) w2 (w2.setCell ⟨g, 3, none⟩ (.int .i64 ((S.pl : Int) + (Y.length : Int)))) := Turned.set (S := fun k => k = g) (Turned.refl _ _) (.inl rfl)
      have hTw : Turned (fun k => k = g) w w2 := HT.out.2.2.trans (Turned.of_below ((Below.refl _ wa).drew.trans HB2.out)) (fun _ _ e => e)
      have h5 := Go.heap_setCell_same w2 g 3 _ _ (.int .i64 ((S.pl : Int) + (Y.length : Int))) HG2.out
      refine ⟨_, rfl, (Bys.of_owns HO.out).turned hT5 (fun k e _ e' => ?_), ⟨a, c, wrap64 (m + 1), ?_, owns_turned (owns_below (owns_below HT.out.2.1 (Below.refl _ _).drew) HB2.out) hT5 (fun k e => (HB.out k e).2), HB.out, og, z1, ?_, z3⟩, (hTw.trans hT5 (fun _ _ e => e)).mono (fun k e => by rw [e]; exact og)⟩
      · have := (HO.out.lt k e).1
        have e2 : k = g := e'
        have : wa.heap.size ≤ k := this
        omega
      · rw [h5]; rfl
      · exact hpz
  · rw [if_neg hR]
    rcases (show n < 0 ∨ (¬ n < 0 ∧ 1048576 < n) by simp [inR] at hR; omega) with e1 | ⟨e1, e2⟩
    all_goals
      clear hR
      go_enter Tryz.func234, Tryz.ntmps234
      go_wp2
      go_ret2
      exact ⟨_, rfl, .inl ⟨rfl, rfl⟩, ⟨a, c, _, HT.out.1, HT.out.2.1, HB.out, og, z1, z2, z3⟩, HT.out.2.2.mono (fun k e => by rw [e]; exact og)⟩
set_option maxRecDepth 100000 in
set_option maxHeartbeats 2000000 in
theorem rrmseek_any (O : Nat → Prop) (g : Nat) (kind off wh : Int) (S : MS) (w : World) (h : RMemAt w O g kind S) (hk : kind = 1 ∨ kind = 2 ∨ kind = 3) :
    Calls Tryz.prog 101 #[.pointer (some ⟨g, 0, none⟩), .int .i64 off, .int .i64 wh] w fun e w' => e = .returned (.tuple #[.int .i64 (S.seek off wh).1, .int .i64 (S.seek off wh).2.1]) ∧ RMemAt w' O g kind (S.seek off wh).2.2 ∧ Turned O w w' := by
  obtain ⟨a, c, m, h1, hr, hb, og, z1, z2, z3⟩ := h
  have hk5 : (kind == 5) = false := by rcases hk with rfl | rfl | rfl <;> rfl
  have hk4 : (kind == 4) = false := by rcases hk with rfl | rfl | rfl <;> rfl
  have q0 : w.cell? ⟨g, 0, none⟩ = some (.int .i64 kind) := cell_of_row w g 0 _ _ _ h1
  have q1 : w.cell? ⟨g, 1, none⟩ = some (.slice a S.l.length c) := cell_of_row w g 1 _ _ _ h1
  have q2 : w.cell? ⟨g, 2, none⟩ = some (.int .i64 S.room) := cell_of_row w g 2 _ _ _ h1
  have q3 : w.cell? ⟨g, 3, none⟩ = some (.int .i64 S.pl) := cell_of_row w g 3 _ _ _ h1
  have s3 := frozen_of_row w g 3 _ _ h1
  have HH := hide (And.intro h1 (And.intro hr hb))
  clear h1 hr hb hk
  unfold MS.seek
  by_cases hwh : wh < 0 ∨ 2 < wh
  · rw [if_pos hwh]
    rcases (show wh < 0 ∨ (¬ wh < 0 ∧ 2 < wh) by omega) with e1 | ⟨e1, e2⟩
    all_goals
      clear hwh
      go_enter Tryz.func101, Tryz.ntmps101
      go_wp2
      go_ret2
      exact ⟨rfl, ⟨a, c, m, HH.out.1, HH.out.2.1, HH.out.2.2, og, z1, z2, z3⟩, Turned.refl _ _⟩
  rw [if_neg hwh]
  have hF : S.from wh ≤ 1048576 := by unfold MS.from; split; omega; split <;> omega
  have HM := hide (fun W => move_any (S.from wh) off S.room W (by omega) (by omega) (by omega) (by omega))
  have HFr : Hid (S.from wh = if wh = 1 then S.pl else if wh = 2 then S.l.length else 0) := hide rfl
  generalize S.from wh = F at *
  by_cases hbad : off < -(F : Int) ∨ (S.room : Int) - (F : Int) < off
  · rw [if_pos hbad]
    rw [if_neg (by omega)] at HM
    clear hbad
    rcases (show wh = 0 ∨ wh = 1 ∨ wh = 2 by omega) with rfl | rfl | rfl
    all_goals
      have hf := HFr.out
      simp at hf
      subst hf
      clear hwh HFr
      try simp only [Int.natCast_zero] at HM
      go_enter Tryz.func101, Tryz.ntmps101
      go_wp2_with fail
      refine (HM.out _).mono ?_
      rintro _ _ ⟨rfl, rfl⟩
      go_wp2
      go_ret2
      exact ⟨rfl, ⟨a, c, m, HH.out.1, HH.out.2.1, HH.out.2.2, og, z1, z2, z3⟩, Turned.refl _ _⟩
  rw [if_neg hbad]
  rw [if_pos (by omega)] at HM
  obtain ⟨T, hT⟩ : ∃ T : Nat, (F : Int) + off = T := ⟨((F : Int) + off).toNat, by omega⟩
  rw [hT] at HM
  simp only [hT, Int.toNat_natCast]
  have hTr : T ≤ S.room := by omega
  clear hbad hT
  have hG : w.heap[g]? = some (.cells (rmc kind (.slice a S.l.length c) S.room S.pl (.slice none 0 0) (.slice none 0 0) m) 196) := HH.out.1
  have h5 := Go.heap_setCell_same w g 3 _ _ (.int .i64 (T : Int)) hG
  have hT5 : Turned (fun k => k = g) w (w.setCell ⟨g, 3, none⟩ (.int .i64 (T : Int))) := Turned.set (S := fun k => k = g) (Turned.refl _ _) (.inl rfl)
  have HR : Hid (RMemAt (w.setCell ⟨g, 3, none⟩ (.int .i64 (T : Int))) O g kind ⟨S.l, S.room, T⟩ ∧ Turned O w (w.setCell ⟨g, 3, none⟩ (.int .i64 (T : Int)))) := hide ⟨⟨a, c, m, h5, owns_turned HH.out.2.1 hT5 (fun k e => (HH.out.2.2 k e).2), HH.out.2.2, og, z1, hTr, z3⟩, hT5.mono (fun k e => by rw [e]; exact og)⟩
  clear hG h5 hT5
  rcases (show wh = 0 ∨ wh = 1 ∨ wh = 2 by omega) with rfl | rfl | rfl
  all_goals
    have hf := HFr.out
    simp at hf
    subst hf
    clear hwh HFr
    try simp only [Int.natCast_zero] at HM
    go_enter Tryz.func101, Tryz.ntmps101
    go_wp2_with fail
    refine (HM.out _).mono ?_
    rintro _ _ ⟨rfl, rfl⟩
    go_wp2
    go_ret2
    exact ⟨rfl, HR.out.1, HR.out.2⟩
end Go.Proofs.YtdmkjbdlidadiaaGreat

/- The reference's memories: Write. -/
namespace Go.Proofs.YtdmkjbdlidadiaaGreat
open Go.RowKit

theorem rrm_lay (O : Nat → Prop) (g : Nat) (kind : Int) (S : MS) (x : List UInt8) (ba : Option Addr) (bc mm : Nat) (a : Option Addr) (c : Nat) (mc : Int) (w wa : World) (hG : wa.heap[g]? = some (.cells (rmc kind (.slice a S.l.length c) S.room S.pl (.slice none 0 0) (.slice none 0 0) mc) 196))
    (hr : wa.ownsRow 0 5 1 (.slice a S.l.length c) S.l.length (S.l.map bv)) (hb : ∀ k, (Value.slice a S.l.length c).ownBlock = some k → O k ∧ k ≠ g) (og : O g) (hT : Turned (fun k => k = g) w wa) (z1 : S.l.length ≤ S.room) (z3 : S.room ≤ 1048576)
    (hx : Bys w (.slice ba x.length bc) x) (hap : ∀ k, (Value.slice ba x.length bc).ownBlock = some k → ¬ O k) (h0 : 0 < x.length) (hm0 : 0 < mm) (hm1 : mm ≤ x.length) (hm2 : S.pl + mm ≤ S.room) (W : World) (hW : Below wa.heap.size wa W) :
    Calls Tryz.prog 221 #[.slice a S.l.length c, .int .i64 S.pl, .slice ba mm bc] W fun e w2 => ∃ ua uc, e = .returned (.slice ua (lay S.l S.pl (x.take mm)).length uc) ∧ (w2.cell? ⟨g, 1, none⟩ = some (.slice a S.l.length c) ∧ w2.cell? ⟨g, 3, none⟩ = some (.int .i64 S.pl) ∧ w2.frozen? ⟨g, 1, none⟩ = false ∧ (w2.setCell ⟨g, 1, none⟩ (.slice ua (lay S.l S.pl (x.take mm)).length uc)).cell? ⟨g, 3, none⟩ = some (.int .i64 S.pl) ∧ (w2.setCell ⟨g, 1, none⟩ (.slice ua (lay S.l S.pl (x.take mm)).length uc)).frozen? ⟨g, 3, none⟩ = false) ∧
      Hid (RMStep w O g kind ⟨lay S.l S.pl (x.take mm), S.room, S.pl + mm⟩ ((w2.setCell ⟨g, 1, none⟩ (.slice ua (lay S.l S.pl (x.take mm)).length uc)).setCell ⟨g, 3, none⟩ (.int .i64 ((S.pl : Int) + (mm : Int))))) := by
  have hgl : g < wa.heap.size := (Array.getElem?_eq_some_iff.1 hG).1
  have htl : (x.take mm).length = mm := by rw [List.length_take]; omega
  have hap2 : ∀ k, (Value.slice ba mm bc).ownBlock = some k → ¬ O k := fun k e => hap k (by cases ba with | none => cases e | some q => exact e)
  have hne : x.take mm ≠ [] := fun e => by rw [e] at htl; simp at htl; omega
  have hcut : Bys w (.slice ba mm bc) (x.take mm) := by
    obtain ⟨_, xb, xo, rfl, hxl, hcells⟩ := bys_block hx h0
    have := bys_cut hx 0 mm bc (by omega)
    simpa using this
  have hcutW : Bys W (.slice ba mm bc) (x.take mm) := (hcut.turned hT (fun k e _ e' => hap2 k e (by have e2 : k = g := e'; rw [e2]; exact og))).below hW
  refine (lay_any 0 _ (.slice ba mm bc) S.l (x.take mm) S.pl W (owns_below hr hW) hcutW (fun _ k e e' => hap2 k e (hb k e').1) (by omega) (by rw [htl]; omega) (Nat.zero_le _)).mono ?_
  rintro _ w2 ⟨u, rfl, hu, hub, hT2⟩
  rw [← lay_rlay _ _ _ hne] at hu
  have hll : (lay S.l S.pl (x.take mm)).length ≤ S.room := by rw [lay_len, htl]; split <;> omega
  generalize lay S.l S.pl (x.take mm) = Z at *
  obtain ⟨ua, uc, rfl⟩ := owns_slice hu
  have hg2 : w2.heap[g]? = some (.cells (rmc kind (.slice a S.l.length c) S.room S.pl (.slice none 0 0) (.slice none 0 0) mc) 196) := by
    rw [hT2.block g (Nat.lt_of_lt_of_le hgl hW.size) (fun e => (hb g e).2 rfl), hW.block g hgl]
    exact hG
  have h3 := Go.heap_setCell_same w2 g 1 _ _ (.slice ua Z.length uc) hg2
  have h4 := Go.heap_setCell_same _ g 3 _ _ (.int .i64 ((S.pl : Int) + (mm : Int))) h3
  have hTz : Turned (fun k => k = g) w2 ((w2.setCell ⟨g, 1, none⟩ (.slice ua Z.length uc)).setCell ⟨g, 3, none⟩ (.int .i64 ((S.pl : Int) + (mm : Int)))) := ((Turned.refl (fun k => k = g) w2).set (.inl rfl)).set (.inl rfl)
  have hwz : w.heap.size ≤ W.heap.size := Nat.le_trans hT.size hW.size
  have hug : ∀ k, (Value.slice ua Z.length uc).ownBlock = some k → (O k ∨ w.heap.size ≤ k) ∧ k ≠ g := fun k e => by
    rcases hub k e with e1 | e1
    · exact ⟨.inl (hb k e1).1, (hb k e1).2⟩
    · have := hW.size
      exact ⟨.inr (by omega), by omega⟩
  refine ⟨ua, uc, rfl, ⟨cell_of_row _ g 1 _ _ _ hg2, cell_of_row _ g 3 _ _ _ hg2, frozen_of_row _ g 1 _ _ hg2, cell_of_row _ g 3 _ _ _ h3, frozen_of_row _ g 3 _ _ h3⟩, hide ⟨fun k => O k ∨ w.heap.size ≤ k, ⟨ua, uc, mc, ?_, owns_turned hu hTz (fun k e => (hug k e).2), hug, .inl og, hll, hm2, z3⟩, fun _ e => e, ?_⟩⟩
  · rw [h4]; rfl
  · have hTW : Turned O w W := (hT.mono (fun k e => by rw [e]; exact og)).trans (Turned.of_below (S := O) hW) (fun _ _ e => e)
    have hTw2 : Turned O w w2 := hTW.trans hT2 (fun k _ e => (hb k e).1)
    exact hTw2.trans hTz (fun k _ e => by have e2 : k = g := e; rw [e2]; exact og)
set_option maxRecDepth 100000 in
set_option maxHeartbeats 2000000 in
theorem rrmwrite_any (O : Nat → Prop) (g : Nat) (kind : Int) (S : MS) (x : List UInt8) (ba : Option Addr) (bc : Nat) (w : World) (h : RMemAt w O g kind S) (hk : kind = 1 ∨ kind = 2) (hx : Bys w (.slice ba x.length bc) x) (hc : x.length ≤ bc) (hap : 0 < x.length → ∀ k, (Value.slice ba x.length bc).ownBlock = some k → ¬ O k) :
    Calls Tryz.prog 232 #[.pointer (some ⟨g, 0, none⟩), .slice ba x.length bc] w fun e w' => e = .returned (.tuple #[.int .i64 (S.write x).1, .int .i64 (S.write x).2.1]) ∧ RMStep w O g kind (S.write x).2.2 w' := by
  obtain ⟨a, c, m, h1, hr, hb, og, z1, z2, z3⟩ := h
  have hk5 : (kind == 5) = false := by rcases hk with rfl | rfl <;> rfl
  have hk4 : (kind == 4) = false := by rcases hk with rfl | rfl <;> rfl
  have hk3 : (kind == 3) = false := by rcases hk with rfl | rfl <;> rfl
  have q0 : w.cell? ⟨g, 0, none⟩ = some (.int .i64 kind) := cell_of_row w g 0 _ _ _ h1
  have q8 : w.cell? ⟨g, 8, none⟩ = some (.int .i64 m) := cell_of_row w g 8 _ _ _ h1
  have s8 := frozen_of_row w g 8 _ _ h1
  have HT := hide (RMemAt.tick h1 hr hb (wrap64 (m + 1)))
  have r0 : ∀ c', (w.setCell ⟨g, 8, none⟩ (.int .i64 c')).cell? ⟨g, 0, none⟩ = some (.int .i64 kind) := fun c' => cell_of_row _ g 0 _ _ _ (RMemAt.tick h1 hr hb c').1
  have r1 : ∀ c', (w.setCell ⟨g, 8, none⟩ (.int .i64 c')).cell? ⟨g, 1, none⟩ = some (.slice a S.l.length c) := fun c' => cell_of_row _ g 1 _ _ _ (RMemAt.tick h1 hr hb c').1
  have r2 : ∀ c', (w.setCell ⟨g, 8, none⟩ (.int .i64 c')).cell? ⟨g, 2, none⟩ = some (.int .i64 S.room) := fun c' => cell_of_row _ g 2 _ _ _ (RMemAt.tick h1 hr hb c').1
  have r3 : ∀ c', (w.setCell ⟨g, 8, none⟩ (.int .i64 c')).cell? ⟨g, 3, none⟩ = some (.int .i64 S.pl) := fun c' => cell_of_row _ g 3 _ _ _ (RMemAt.tick h1 hr hb c').1
  have HX := hide (And.intro hx hap)
  have HB := hide hb
  clear h1 hr hb hk hx hap
  have HE : Hid (RMStep w O g kind S (w.setCell ⟨g, 8, none⟩ (.int .i64 (wrap64 (m + 1))))) := hide ⟨O, ⟨a, c, _, HT.out.1, HT.out.2.1, HB.out, og, z1, z2, z3⟩, fun _ e => .inl e, HT.out.2.2.mono (fun k e => by rw [e]; exact og)⟩
  unfold MS.write
  by_cases h1 : 1048576 < x.length
  · rw [if_pos h1]
    have e1 : (1048576 : Int) < (x.length : Int) := by omega
    go_enter Tryz.func232, Tryz.ntmps232
    go_wp2
    go_ret2
    exact ⟨rfl, HE.out⟩
  rw [if_neg h1]
  have e1 : ¬ (1048576 : Int) < (x.length : Int) := by omega
  by_cases h2 : x = []
  · rw [if_pos h2]
    subst h2
    clear e1
    simp only [List.length_nil] at *
    go_enter Tryz.func232, Tryz.ntmps232
    go_wp2
    go_ret2
    exact ⟨rfl, HE.out⟩
  rw [if_neg h2]
  have h0 : 0 < x.length := List.length_pos_iff.2 h2
  have e2 : ((x.length : Int) == 0) = false := by simp; omega
  clear h1 h2
  by_cases h3 : S.pl = S.room
  · rw [if_pos h3]
    have e3 : (S.room : Int) ≤ (S.pl : Int) := by omega
    clear h3
    go_enter Tryz.func232, Tryz.ntmps232
    go_wp2_with fail
    have k2 := r2 (wrap64 (m + 1))
    have k3 := r3 (wrap64 (m + 1))
    clear r0 r1 r2 r3 q0 q8 s8
    generalize w.setCell ⟨g, 8, none⟩ (.int .i64 (wrap64 (m + 1))) = wa at *
    go_quiet (fail)
    go_wp2
    go_ret2
    obtain ⟨O', y1, y2, y3⟩ := HE.out
    have hbn := below_drewN (Below.refl wa.heap.size wa) nq
    exact ⟨rfl, O', y1.keep (fun j _ hl => hbn.block j hl), y2, y3.trans (Turned.of_below (S := O) hbn) (fun _ _ e => e)⟩
  rw [if_neg h3]
  have e3 : ¬ (S.room : Int) ≤ (S.pl : Int) := by omega
  obtain ⟨mm, hmm⟩ : ∃ mm, mm = min x.length (S.room - S.pl) := ⟨_, rfl⟩
  rw [← hmm]
  have hm0 : 0 < mm := by omega
  have hm1 : mm ≤ x.length := by omega
  have hm2 : S.pl + mm ≤ S.room := by omega
  have hmi : min (x.length : Int) ((S.room : Int) - (S.pl : Int)) = (mm : Int) := by omega
  have hmc : mm ≤ bc := by omega
  have HL := hide (rrm_lay O g kind S x ba bc mm a c (wrap64 (m + 1)) w _ HT.out.1 HT.out.2.1 HB.out og HT.out.2.2 z1 z3 HX.out.1 (HX.out.2 h0) h0 hm0 hm1 hm2)
  clear h3 HE hmm HX
  generalize lay S.l S.pl (x.take mm) = Z at *
  go_enter Tryz.func232, Tryz.ntmps232
  go_wp2_with fail
  have k1 := r1 (wrap64 (m + 1))
  have k2 := r2 (wrap64 (m + 1))
  have k3 := r3 (wrap64 (m + 1))
  clear r0 r1 r2 r3 q0 q8 s8 HT
  generalize w.setCell ⟨g, 8, none⟩ (.int .i64 (wrap64 (m + 1))) = wa at *
  go_quiet (fail)
  go_wp2_with fail
  go_quiet (fail)
  go_wp2_with fail
  go_region_law (first
      | (go_simp; go_at_call 221; refine (HL.out _ (below_drewN (Below.refl _ _) _)).mono ?_; rintro _ w2 ⟨ua, uc, rfl, ⟨j1, j3, f1, j3', f3⟩, HN⟩)
      | fail)
  all_goals
    go_wp2
    go_ret2
    exact ⟨rfl, HN.out⟩
end Go.Proofs.YtdmkjbdlidadiaaGreat

/- Answers for the program: the law's answers. -/
namespace Go.Proofs.YtdmkjbdlidadiaaGreat
open Go.RowKit

end Go.Proofs.YtdmkjbdlidadiaaGreat

/- The reference's custom stream: made. -/
namespace Go.Proofs.YtdmkjbdlidadiaaGreat
open Go.RowKit

structure RBlk (W : World) (g : Nat) (rv wv : Value) : Prop where
  row : W.heap[g]? = some (.cells (rmc 4 (.slice none 0 0) 0 0 rv wv 0) 196)
end Go.Proofs.YtdmkjbdlidadiaaGreat

/- A custom stream: an answer is used up. -/
namespace Go.Proofs.YtdmkjbdlidadiaaGreat
open Go.RowKit

end Go.Proofs.YtdmkjbdlidadiaaGreat

/- A custom stream: useAnswer, useNumber, as deferred calls. -/
namespace Go.Proofs.YtdmkjbdlidadiaaGreat
open Go.RowKit

end Go.Proofs.YtdmkjbdlidadiaaGreat

/- A custom stream: Read. -/
namespace Go.Proofs.YtdmkjbdlidadiaaGreat
open Go.RowKit

end Go.Proofs.YtdmkjbdlidadiaaGreat

/- A custom stream: howMany. -/
namespace Go.Proofs.YtdmkjbdlidadiaaGreat
open Go.RowKit

end Go.Proofs.YtdmkjbdlidadiaaGreat

/- A custom stream: Write, Taken. -/
namespace Go.Proofs.YtdmkjbdlidadiaaGreat
open Go.RowKit

end Go.Proofs.YtdmkjbdlidadiaaGreat

/- The reference's custom streams: in memory; Read. -/
namespace Go.Proofs.YtdmkjbdlidadiaaGreat
open Go.RowKit

structure RCusP (W : World) (O : Nat → Prop) (g : Nat) (C : CS) (rv wv tv : Value) (m : Int) (R N : Nat → Prop) : Prop where
  row : W.heap[g]? = some (.cells (rmc 4 tv 0 0 rv wv m) 196)
  ans : Ans W R rv C.reads
  num : NRow W N wv C.writes
  tak : W.ownsRow 0 5 1 tv C.taken.length (C.taken.map bv)
  ot : ∀ k, tv.ownBlock = some k → O k ∧ ¬ R k ∧ ¬ N k ∧ k ≠ g
  oR : ∀ k, R k → O k ∧ k ≠ g ∧ ¬ N k
  oN : ∀ k, N k → O k ∧ k ≠ g
  og : O g
  z1 : C.reads.length ≤ 4096
  z2 : C.writes.length ≤ 4096
  z3 : ∀ x ∈ C.reads, x.1.length ≤ 1048576
end Go.Proofs.YtdmkjbdlidadiaaGreat

/- The reference's custom streams: Write, Seek. -/
namespace Go.Proofs.YtdmkjbdlidadiaaGreat
open Go.RowKit

end Go.Proofs.YtdmkjbdlidadiaaGreat

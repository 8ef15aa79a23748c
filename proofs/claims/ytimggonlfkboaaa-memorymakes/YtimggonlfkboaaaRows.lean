/-
  No cell of these rows narrows 'for every input' (looked for: loops, veiled, ifaces, maps, wideKeys, modest, calm, conditions, laid).
  DERIVED. THE GIVEN ROWS OF THIS SEAT. 5 by the template 'for every input the law returns true; each argument reads behind the call as it read before'; 0 by the template 'total and deterministic' (their statements: YtimggonlfkboaaaTotals.lean).
  GIVEN WITH THE SEED: the statements are not yours to turn. If you find one false, say at which input.
  Laid BY PROGRAM, IN A SANDBOX (cutbox-rows.mjs): the forced cells as the released guide's own fill.sh prints them over the translation 599214eddb360a9a… (all of the seat's roots in one cut). By AI agents, Wed Nov 11 2026. No macro, syntax, notation, axiom, sorry.
-/
import Derived.Test.YtimggonlfkboaaaChecked
import GoSem.Claim
import GoSem.ClaimJoined
import GoSem.ClaimMapViews
import Derived.JoinedTies
import Derived.KernelRfl
namespace Go.Proofs.Ytimggonlfkboaaa
/- THE CELL 'sum', in the pinned program and in every row, IS THE sha256 OF THE DUMP (.gsa) THAT YtimggonlfkboaaaProg.lean LOADS. Nothing in Lean hashes anything: it is a label: what it is worth is what the hold of that sum in a sandbox is worth. -/
noncomputable def Try.pinned : Pinned := { name := "ytimggonlfkboaaa", sum := "599214eddb360a9afddac9b0c19b7c8ac521da914d02f5df168934ec53ba1185", checked := Try.checked }
namespace Rows
def none {H : Type} : Left H := { results := [], args := [] }

/-- 'millracelaw10.MemoryMakes': WHATEVER THE INPUT: true; the input reads as it did. -/
def memoryMakesSpec : ChangeSpec := { name := "memoryMakes", fn := fun _ => fun
  | [d] => { results := [.lit (.bool true)], args := [d] }
  | _ => none }
def memoryMakesRow : OpenClaim := { program := "ytimggonlfkboaaa", sum := "599214eddb360a9afddac9b0c19b7c8ac521da914d02f5df168934ec53ba1185", func := "millrace/millracelaw10.MemoryMakes", spec := "memoryMakes", apart := false }
def MemoryMakesSaid : Prop := memoryMakesRow.holds Try.pinned (OpenSpec.ofChange memoryMakesSpec)

/-- ITS FALSE NEIGHBOUR: 'it returns false'. Refute it at one input. -/
def memoryMakesWrong : ChangeSpec := { name := "memoryMakes", fn := fun _ => fun
  | [d] => { results := [.lit (.bool false)], args := [d] }
  | _ => none }
def MemoryMakesWrongFalsely : Prop := memoryMakesRow.holds Try.pinned (OpenSpec.ofChange memoryMakesWrong)

/-- 'millracelaw10.MemoryAlike': WHATEVER THE INPUT: true; the input reads as it did. -/
def memoryAlikeSpec : ChangeSpec := { name := "memoryAlike", fn := fun _ => fun
  | [d1, d2] => { results := [.lit (.bool true)], args := [d1, d2] }
  | _ => none }
def memoryAlikeRow : OpenClaim := { program := "ytimggonlfkboaaa", sum := "599214eddb360a9afddac9b0c19b7c8ac521da914d02f5df168934ec53ba1185", func := "millrace/millracelaw10.MemoryAlike", spec := "memoryAlike", apart := false }
def MemoryAlikeSaid : Prop := memoryAlikeRow.holds Try.pinned (OpenSpec.ofChange memoryAlikeSpec)

/-- ITS FALSE NEIGHBOUR: 'it returns false'. Refute it at one input. -/
def memoryAlikeWrong : ChangeSpec := { name := "memoryAlike", fn := fun _ => fun
  | [d1, d2] => { results := [.lit (.bool false)], args := [d1, d2] }
  | _ => none }
def MemoryAlikeWrongFalsely : Prop := memoryAlikeRow.holds Try.pinned (OpenSpec.ofChange memoryAlikeWrong)

/-- 'millracelaw10.MemoryTold': WHATEVER THE INPUT: true; the input reads as it did. -/
def memoryToldSpec : ChangeSpec := { name := "memoryTold", fn := fun _ => fun
  | [d1, d2] => { results := [.lit (.bool true)], args := [d1, d2] }
  | _ => none }
def memoryToldRow : OpenClaim := { program := "ytimggonlfkboaaa", sum := "599214eddb360a9afddac9b0c19b7c8ac521da914d02f5df168934ec53ba1185", func := "millrace/millracelaw10.MemoryTold", spec := "memoryTold", apart := false }
def MemoryToldSaid : Prop := memoryToldRow.holds Try.pinned (OpenSpec.ofChange memoryToldSpec)

/-- ITS FALSE NEIGHBOUR: 'it returns false'. Refute it at one input. -/
def memoryToldWrong : ChangeSpec := { name := "memoryTold", fn := fun _ => fun
  | [d1, d2] => { results := [.lit (.bool false)], args := [d1, d2] }
  | _ => none }
def MemoryToldWrongFalsely : Prop := memoryToldRow.holds Try.pinned (OpenSpec.ofChange memoryToldWrong)

/-- 'millracelaw10.MemoryOwn': WHATEVER THE INPUT: true; the input reads as it did. -/
def memoryOwnSpec : ChangeSpec := { name := "memoryOwn", fn := fun _ => fun
  | [d] => { results := [.lit (.bool true)], args := [d] }
  | _ => none }
def memoryOwnRow : OpenClaim := { program := "ytimggonlfkboaaa", sum := "599214eddb360a9afddac9b0c19b7c8ac521da914d02f5df168934ec53ba1185", func := "millrace/millracelaw10.MemoryOwn", spec := "memoryOwn", apart := false }
def MemoryOwnSaid : Prop := memoryOwnRow.holds Try.pinned (OpenSpec.ofChange memoryOwnSpec)

/-- ITS FALSE NEIGHBOUR: 'it returns false'. Refute it at one input. -/
def memoryOwnWrong : ChangeSpec := { name := "memoryOwn", fn := fun _ => fun
  | [d] => { results := [.lit (.bool false)], args := [d] }
  | _ => none }
def MemoryOwnWrongFalsely : Prop := memoryOwnRow.holds Try.pinned (OpenSpec.ofChange memoryOwnWrong)

/-- 'millracelaw10.MemoryRoom': WHATEVER THE INPUT: true; the input reads as it did. -/
def memoryRoomSpec : ChangeSpec := { name := "memoryRoom", fn := fun _ => fun
  | [d1, d2] => { results := [.lit (.bool true)], args := [d1, d2] }
  | _ => none }
def memoryRoomRow : OpenClaim := { program := "ytimggonlfkboaaa", sum := "599214eddb360a9afddac9b0c19b7c8ac521da914d02f5df168934ec53ba1185", func := "millrace/millracelaw10.MemoryRoom", spec := "memoryRoom", apart := false }
def MemoryRoomSaid : Prop := memoryRoomRow.holds Try.pinned (OpenSpec.ofChange memoryRoomSpec)

/-- ITS FALSE NEIGHBOUR: 'it returns false'. Refute it at one input. -/
def memoryRoomWrong : ChangeSpec := { name := "memoryRoom", fn := fun _ => fun
  | [d1, d2] => { results := [.lit (.bool false)], args := [d1, d2] }
  | _ => none }
def MemoryRoomWrongFalsely : Prop := memoryRoomRow.holds Try.pinned (OpenSpec.ofChange memoryRoomWrong)

/- THE SECOND FORM. 'bulk': how many values and letters a reading holds, each counted each time it is reached (what is shared counts as often as it is met; a slice's spare places count too). A statement '..UptoSaid' is the law's where the arguments, and the package variables that the reading takes, are together of bulk at most 1048576: NARROWER than '..Said'. Prove '..Said' where nothing that the law and all that it calls make is longer than what came in: it says more and counts as full. Else prove '..UptoSaid'. A law counts once. -/
mutual
def uptoBulk {H : Type} : DataW H → Nat
  | .lit (.string bytes) => bytes.length + 1
  | .lit _ => 1
  | .nil => 1
  | .ptr d => uptoBulk d + 1
  | .slice elems spare => uptoBulkAll elems + uptoBulkAll spare + 1
  | .agg parts => uptoBulkAll parts + 1
  | .iface _ d => uptoBulk d + 1
  | .map entries => uptoBulkEntries entries + 1
  | .held _ => 1
def uptoBulkAll {H : Type} : List (DataW H) → Nat
  | [] => 0
  | d :: r => uptoBulk d + uptoBulkAll r
def uptoBulkEntries {H : Type} : List (Lit × DataW H) → Nat
  | [] => 0
  | x :: r => uptoBulkEntry x + uptoBulkEntries r
def uptoBulkEntry {H : Type} : Lit × DataW H → Nat
  | (.string bytes, d) => bytes.length + uptoBulk d + 1
  | (_, d) => uptoBulk d + 1
 end
def uptoSmall : (H : Type) → List (DataW H) → Bool := fun _ ds => decide (uptoBulkAll ds ≤ 1048576)
def OpenSpec.upto (s : _root_.Go.ChangeSpec) : _root_.Go.OpenSpec := { _root_.Go.OpenSpec.ofChange s with cond := some uptoSmall }

/-- 'millracelaw10.MemoryMakes', WHERE WHAT IT READS IS OF BULK AT MOST 1048576: true; the input reads as it did. -/
def memoryMakesUptoRow : OpenClaim := { program := "ytimggonlfkboaaa", sum := "599214eddb360a9afddac9b0c19b7c8ac521da914d02f5df168934ec53ba1185", func := "millrace/millracelaw10.MemoryMakes", spec := "memoryMakes", apart := false, narrowed := true }
def MemoryMakesUptoSaid : Prop := memoryMakesUptoRow.holds Try.pinned (OpenSpec.upto memoryMakesSpec)

/-- 'millracelaw10.MemoryAlike', WHERE WHAT IT READS IS OF BULK AT MOST 1048576: true; the input reads as it did. -/
def memoryAlikeUptoRow : OpenClaim := { program := "ytimggonlfkboaaa", sum := "599214eddb360a9afddac9b0c19b7c8ac521da914d02f5df168934ec53ba1185", func := "millrace/millracelaw10.MemoryAlike", spec := "memoryAlike", apart := false, narrowed := true }
def MemoryAlikeUptoSaid : Prop := memoryAlikeUptoRow.holds Try.pinned (OpenSpec.upto memoryAlikeSpec)

/-- 'millracelaw10.MemoryTold', WHERE WHAT IT READS IS OF BULK AT MOST 1048576: true; the input reads as it did. -/
def memoryToldUptoRow : OpenClaim := { program := "ytimggonlfkboaaa", sum := "599214eddb360a9afddac9b0c19b7c8ac521da914d02f5df168934ec53ba1185", func := "millrace/millracelaw10.MemoryTold", spec := "memoryTold", apart := false, narrowed := true }
def MemoryToldUptoSaid : Prop := memoryToldUptoRow.holds Try.pinned (OpenSpec.upto memoryToldSpec)

/-- 'millracelaw10.MemoryOwn', WHERE WHAT IT READS IS OF BULK AT MOST 1048576: true; the input reads as it did. -/
def memoryOwnUptoRow : OpenClaim := { program := "ytimggonlfkboaaa", sum := "599214eddb360a9afddac9b0c19b7c8ac521da914d02f5df168934ec53ba1185", func := "millrace/millracelaw10.MemoryOwn", spec := "memoryOwn", apart := false, narrowed := true }
def MemoryOwnUptoSaid : Prop := memoryOwnUptoRow.holds Try.pinned (OpenSpec.upto memoryOwnSpec)

/-- 'millracelaw10.MemoryRoom', WHERE WHAT IT READS IS OF BULK AT MOST 1048576: true; the input reads as it did. -/
def memoryRoomUptoRow : OpenClaim := { program := "ytimggonlfkboaaa", sum := "599214eddb360a9afddac9b0c19b7c8ac521da914d02f5df168934ec53ba1185", func := "millrace/millracelaw10.MemoryRoom", spec := "memoryRoom", apart := false, narrowed := true }
def MemoryRoomUptoSaid : Prop := memoryRoomUptoRow.holds Try.pinned (OpenSpec.upto memoryRoomSpec)

end Rows
end Go.Proofs.Ytimggonlfkboaaa

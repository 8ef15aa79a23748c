/-
  No cell of these rows narrows 'for every input' (looked for: loops, veiled, ifaces, maps, wideKeys, modest, calm, conditions, laid).
  DERIVED. THE GIVEN ROWS OF THIS SEAT. 2 by the template 'for every input the law returns true; each argument reads behind the call as it read before'; 0 by the template 'total and deterministic' (their statements: YtckmfbjpjakbcaaTotals.lean).
  GIVEN WITH THE SEED: the statements are not yours to turn. If you find one false, say at which input.
  Laid BY PROGRAM, IN A SANDBOX (cutbox-rows.mjs): the forced cells as the released guide's own fill.sh prints them over the translation 2f05382e6e90bb29… (all of the seat's roots in one cut). By AI agents, Wed Nov 11 2026. No macro, syntax, notation, axiom, sorry.
-/
import Derived.Test.YtckmfbjpjakbcaaChecked
import GoSem.Claim
import GoSem.ClaimJoined
import GoSem.ClaimMapViews
import Derived.JoinedTies
import Derived.KernelRfl
namespace Go.Proofs.Ytckmfbjpjakbcaa
/- THE CELL 'sum', in the pinned program and in every row, IS THE sha256 OF THE DUMP (.gsa) THAT YtckmfbjpjakbcaaProg.lean LOADS. Nothing in Lean hashes anything: it is a label: what it is worth is what the hold of that sum in a sandbox is worth. -/
noncomputable def Try.pinned : Pinned := { name := "ytckmfbjpjakbcaa", sum := "2f05382e6e90bb29420f9ba22dc81094ab0379bef42c7111c3f4e1622286ba92", checked := Try.checked }
namespace Rows
def none {H : Type} : Left H := { results := [], args := [] }

/-- 'millracelaw14.PositionTells': WHATEVER THE INPUT: true; the input reads as it did. -/
def positionTellsSpec : ChangeSpec := { name := "positionTells", fn := fun _ => fun
  | [d1, d2, d3, d4, d5, d6] => { results := [.lit (.bool true)], args := [d1, d2, d3, d4, d5, d6] }
  | _ => none }
def positionTellsRow : OpenClaim := { program := "ytckmfbjpjakbcaa", sum := "2f05382e6e90bb29420f9ba22dc81094ab0379bef42c7111c3f4e1622286ba92", func := "millrace/millracelaw14.PositionTells", spec := "positionTells", unfollowed := true, recurses := true, apart := false }
def PositionTellsSaid : Prop := positionTellsRow.holds Try.pinned (OpenSpec.ofChange positionTellsSpec)

/-- ITS FALSE NEIGHBOUR: 'it returns false'. Refute it at one input. -/
def positionTellsWrong : ChangeSpec := { name := "positionTells", fn := fun _ => fun
  | [d1, d2, d3, d4, d5, d6] => { results := [.lit (.bool false)], args := [d1, d2, d3, d4, d5, d6] }
  | _ => none }
def PositionTellsWrongFalsely : Prop := positionTellsRow.holds Try.pinned (OpenSpec.ofChange positionTellsWrong)

/-- 'millracelaw14.PositionCounts': WHATEVER THE INPUT: true; the input reads as it did. -/
def positionCountsSpec : ChangeSpec := { name := "positionCounts", fn := fun _ => fun
  | [d1, d2, d3, d4, d5] => { results := [.lit (.bool true)], args := [d1, d2, d3, d4, d5] }
  | _ => none }
def positionCountsRow : OpenClaim := { program := "ytckmfbjpjakbcaa", sum := "2f05382e6e90bb29420f9ba22dc81094ab0379bef42c7111c3f4e1622286ba92", func := "millrace/millracelaw14.PositionCounts", spec := "positionCounts", unfollowed := true, recurses := true, apart := false }
def PositionCountsSaid : Prop := positionCountsRow.holds Try.pinned (OpenSpec.ofChange positionCountsSpec)

/-- ITS FALSE NEIGHBOUR: 'it returns false'. Refute it at one input. -/
def positionCountsWrong : ChangeSpec := { name := "positionCounts", fn := fun _ => fun
  | [d1, d2, d3, d4, d5] => { results := [.lit (.bool false)], args := [d1, d2, d3, d4, d5] }
  | _ => none }
def PositionCountsWrongFalsely : Prop := positionCountsRow.holds Try.pinned (OpenSpec.ofChange positionCountsWrong)

/- THE SECOND FORM. 'bulk': how many values and letters a reading holds, each counted each time it is reached (what is shared counts as often as it is met; a slice's spare places count too). A statement '..UptoSaid' is the law's where the arguments, and the package variables that the reading takes, are together of bulk at most 1048576: NARROWER than '..Said'. Prove '..Said' where nothing that the law and all that it calls make is longer than what came in: it says more and counts as full. Else prove '..UptoSaid'. A law counts once. -/
mutual
def uptoBulk {H : Type} : DataW H → Nat
  | .lit (.string bytes) => bytes.length + 1
  | .lit _ => 1
  | .nil => 1
  | .ptr d => uptoBulk d + 1
  | .slice elems spare => uptoBulkAll elems + uptoBulkAll spare + 1
  | .agg parts => uptoBulkAll parts + 1
  | .iface _ d => uptoBulk d + 1
  | .map entries => uptoBulkEntries entries + 1
  | .held _ => 1
def uptoBulkAll {H : Type} : List (DataW H) → Nat
  | [] => 0
  | d :: r => uptoBulk d + uptoBulkAll r
def uptoBulkEntries {H : Type} : List (Lit × DataW H) → Nat
  | [] => 0
  | x :: r => uptoBulkEntry x + uptoBulkEntries r
def uptoBulkEntry {H : Type} : Lit × DataW H → Nat
  | (.string bytes, d) => bytes.length + uptoBulk d + 1
  | (_, d) => uptoBulk d + 1
 end
def uptoSmall : (H : Type) → List (DataW H) → Bool := fun _ ds => decide (uptoBulkAll ds ≤ 1048576)
def OpenSpec.upto (s : _root_.Go.ChangeSpec) : _root_.Go.OpenSpec := { _root_.Go.OpenSpec.ofChange s with cond := some uptoSmall }

/-- 'millracelaw14.PositionTells', WHERE WHAT IT READS IS OF BULK AT MOST 1048576: true; the input reads as it did. -/
def positionTellsUptoRow : OpenClaim := { program := "ytckmfbjpjakbcaa", sum := "2f05382e6e90bb29420f9ba22dc81094ab0379bef42c7111c3f4e1622286ba92", func := "millrace/millracelaw14.PositionTells", spec := "positionTells", unfollowed := true, recurses := true, apart := false, narrowed := true }
def PositionTellsUptoSaid : Prop := positionTellsUptoRow.holds Try.pinned (OpenSpec.upto positionTellsSpec)

/-- 'millracelaw14.PositionCounts', WHERE WHAT IT READS IS OF BULK AT MOST 1048576: true; the input reads as it did. -/
def positionCountsUptoRow : OpenClaim := { program := "ytckmfbjpjakbcaa", sum := "2f05382e6e90bb29420f9ba22dc81094ab0379bef42c7111c3f4e1622286ba92", func := "millrace/millracelaw14.PositionCounts", spec := "positionCounts", unfollowed := true, recurses := true, apart := false, narrowed := true }
def PositionCountsUptoSaid : Prop := positionCountsUptoRow.holds Try.pinned (OpenSpec.upto positionCountsSpec)

end Rows
end Go.Proofs.Ytckmfbjpjakbcaa

/-
  No cell of these rows narrows 'for every input' (looked for: loops, veiled, ifaces, maps, wideKeys, modest, calm, conditions, laid).
  DERIVED. THE GIVEN ROWS OF THIS SEAT. 3 by the template 'for every input the law returns true; each argument reads behind the call as it read before'; 0 by the template 'total and deterministic' (their statements: YtlooldimlcdedaaTotals.lean).
  GIVEN WITH THE SEED: the statements are not yours to turn. If you find one false, say at which input.
  Laid BY PROGRAM, IN A SANDBOX (cutbox-rows.mjs): the forced cells as the released guide's own fill.sh prints them over the translation e19d47effa9f7f51… (all of the seat's roots in one cut). By AI agents, Wed Nov 11 2026. No macro, syntax, notation, axiom, sorry.
-/
import Derived.Test.YtlooldimlcdedaaChecked
import GoSem.Claim
import GoSem.ClaimJoined
import GoSem.ClaimMapViews
import Derived.JoinedTies
import Derived.KernelRfl
namespace Go.Proofs.Ytlooldimlcdedaa
/- THE CELL 'sum', in the pinned program and in every row, IS THE sha256 OF THE DUMP (.gsa) THAT YtlooldimlcdedaaProg.lean LOADS. Nothing in Lean hashes anything: it is a label: what it is worth is what the hold of that sum in a sandbox is worth. -/
noncomputable def Try.pinned : Pinned := { name := "ytlooldimlcdedaa", sum := "e19d47effa9f7f518f60a153b82a84ab29ee686803193c7d77bcefa5355f7ed2", checked := Try.checked }
namespace Rows
def none {H : Type} : Left H := { results := [], args := [] }

/-- 'millracelaw06.KernPlace': WHATEVER THE INPUT: true; the input reads as it did. -/
def kernPlaceSpec : ChangeSpec := { name := "kernPlace", fn := fun _ => fun
  | [d1, d2, d3] => { results := [.lit (.bool true)], args := [d1, d2, d3] }
  | _ => none }
def kernPlaceRow : OpenClaim := { program := "ytlooldimlcdedaa", sum := "e19d47effa9f7f518f60a153b82a84ab29ee686803193c7d77bcefa5355f7ed2", func := "millrace/millracelaw06.KernPlace", spec := "kernPlace", unfollowed := true, recurses := true, apart := false }
def KernPlaceSaid : Prop := kernPlaceRow.holds Try.pinned (OpenSpec.ofChange kernPlaceSpec)

/-- ITS FALSE NEIGHBOUR: 'it returns false'. Refute it at one input. -/
def kernPlaceWrong : ChangeSpec := { name := "kernPlace", fn := fun _ => fun
  | [d1, d2, d3] => { results := [.lit (.bool false)], args := [d1, d2, d3] }
  | _ => none }
def KernPlaceWrongFalsely : Prop := kernPlaceRow.holds Try.pinned (OpenSpec.ofChange kernPlaceWrong)

/-- 'millracelaw06.KernSays': WHATEVER THE INPUT: true; the input reads as it did. -/
def kernSaysSpec : ChangeSpec := { name := "kernSays", fn := fun _ => fun
  | [d1, d2, d3, d4] => { results := [.lit (.bool true)], args := [d1, d2, d3, d4] }
  | _ => none }
def kernSaysRow : OpenClaim := { program := "ytlooldimlcdedaa", sum := "e19d47effa9f7f518f60a153b82a84ab29ee686803193c7d77bcefa5355f7ed2", func := "millrace/millracelaw06.KernSays", spec := "kernSays", unfollowed := true, recurses := true, apart := false }
def KernSaysSaid : Prop := kernSaysRow.holds Try.pinned (OpenSpec.ofChange kernSaysSpec)

/-- ITS FALSE NEIGHBOUR: 'it returns false'. Refute it at one input. -/
def kernSaysWrong : ChangeSpec := { name := "kernSays", fn := fun _ => fun
  | [d1, d2, d3, d4] => { results := [.lit (.bool false)], args := [d1, d2, d3, d4] }
  | _ => none }
def KernSaysWrongFalsely : Prop := kernSaysRow.holds Try.pinned (OpenSpec.ofChange kernSaysWrong)

/-- 'millracetop.TopWhole': WHATEVER THE INPUT: true; the input reads as it did. -/
def topWholeSpec : ChangeSpec := { name := "topWhole", fn := fun _ => fun
  | [d1, d2] => { results := [.lit (.bool true)], args := [d1, d2] }
  | _ => none }
def topWholeRow : OpenClaim := { program := "ytlooldimlcdedaa", sum := "e19d47effa9f7f518f60a153b82a84ab29ee686803193c7d77bcefa5355f7ed2", func := "millrace/millracetop.TopWhole", spec := "topWhole", unfollowed := true, recurses := true, apart := false }
def TopWholeSaid : Prop := topWholeRow.holds Try.pinned (OpenSpec.ofChange topWholeSpec)

/-- ITS FALSE NEIGHBOUR: 'it returns false'. Refute it at one input. -/
def topWholeWrong : ChangeSpec := { name := "topWhole", fn := fun _ => fun
  | [d1, d2] => { results := [.lit (.bool false)], args := [d1, d2] }
  | _ => none }
def TopWholeWrongFalsely : Prop := topWholeRow.holds Try.pinned (OpenSpec.ofChange topWholeWrong)

/- THE SECOND FORM. 'bulk': how many values and letters a reading holds, each counted each time it is reached (what is shared counts as often as it is met; a slice's spare places count too). A statement '..UptoSaid' is the law's where the arguments, and the package variables that the reading takes, are together of bulk at most 1048576: NARROWER than '..Said'. Prove '..Said' where nothing that the law and all that it calls make is longer than what came in: it says more and counts as full. Else prove '..UptoSaid'. A law counts once. -/
mutual
def uptoBulk {H : Type} : DataW H → Nat
  | .lit (.string bytes) => bytes.length + 1
  | .lit _ => 1
  | .nil => 1
  | .ptr d => uptoBulk d + 1
  | .slice elems spare => uptoBulkAll elems + uptoBulkAll spare + 1
  | .agg parts => uptoBulkAll parts + 1
  | .iface _ d => uptoBulk d + 1
  | .map entries => uptoBulkEntries entries + 1
  | .held _ => 1
def uptoBulkAll {H : Type} : List (DataW H) → Nat
  | [] => 0
  | d :: r => uptoBulk d + uptoBulkAll r
def uptoBulkEntries {H : Type} : List (Lit × DataW H) → Nat
  | [] => 0
  | x :: r => uptoBulkEntry x + uptoBulkEntries r
def uptoBulkEntry {H : Type} : Lit × DataW H → Nat
  | (.string bytes, d) => bytes.length + uptoBulk d + 1
  | (_, d) => uptoBulk d + 1
 end
def uptoSmall : (H : Type) → List (DataW H) → Bool := fun _ ds => decide (uptoBulkAll ds ≤ 1048576)
def OpenSpec.upto (s : _root_.Go.ChangeSpec) : _root_.Go.OpenSpec := { _root_.Go.OpenSpec.ofChange s with cond := some uptoSmall }

/-- 'millracelaw06.KernPlace', WHERE WHAT IT READS IS OF BULK AT MOST 1048576: true; the input reads as it did. -/
def kernPlaceUptoRow : OpenClaim := { program := "ytlooldimlcdedaa", sum := "e19d47effa9f7f518f60a153b82a84ab29ee686803193c7d77bcefa5355f7ed2", func := "millrace/millracelaw06.KernPlace", spec := "kernPlace", unfollowed := true, recurses := true, apart := false, narrowed := true }
def KernPlaceUptoSaid : Prop := kernPlaceUptoRow.holds Try.pinned (OpenSpec.upto kernPlaceSpec)

/-- 'millracelaw06.KernSays', WHERE WHAT IT READS IS OF BULK AT MOST 1048576: true; the input reads as it did. -/
def kernSaysUptoRow : OpenClaim := { program := "ytlooldimlcdedaa", sum := "e19d47effa9f7f518f60a153b82a84ab29ee686803193c7d77bcefa5355f7ed2", func := "millrace/millracelaw06.KernSays", spec := "kernSays", unfollowed := true, recurses := true, apart := false, narrowed := true }
def KernSaysUptoSaid : Prop := kernSaysUptoRow.holds Try.pinned (OpenSpec.upto kernSaysSpec)

/-- 'millracetop.TopWhole', WHERE WHAT IT READS IS OF BULK AT MOST 1048576: true; the input reads as it did. -/
def topWholeUptoRow : OpenClaim := { program := "ytlooldimlcdedaa", sum := "e19d47effa9f7f518f60a153b82a84ab29ee686803193c7d77bcefa5355f7ed2", func := "millrace/millracetop.TopWhole", spec := "topWhole", unfollowed := true, recurses := true, apart := false, narrowed := true }
def TopWholeUptoSaid : Prop := topWholeUptoRow.holds Try.pinned (OpenSpec.upto topWholeSpec)

end Rows
end Go.Proofs.Ytlooldimlcdedaa

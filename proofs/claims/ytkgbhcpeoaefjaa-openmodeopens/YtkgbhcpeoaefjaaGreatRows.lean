/-
  No cell of these rows narrows 'for every input' (looked for: loops, veiled, ifaces, maps, wideKeys, modest, calm, conditions, laid).
  DERIVED. THE GIVEN ROWS OF THIS SEAT. 2 by the template 'for every input the law returns true; each argument reads behind the call as it read before'; 0 by the template 'total and deterministic' (their statements: YtkgbhcpeoaefjaaGreatTotals.lean).
  GIVEN WITH THE SEED: the statements are not yours to turn. If you find one false, say at which input.
  Laid BY PROGRAM, IN A SANDBOX (cutbox-rows.mjs): the forced cells as the released guide's own fill.sh prints them over the translation 3731481c6a2c0e2d… (all of the seat's roots in one cut). By AI agents, Wed Nov 11 2026. No macro, syntax, notation, axiom, sorry.
-/
import Derived.Test.YtkgbhcpeoaefjaaGreatChecked
import GoSem.Claim
import GoSem.ClaimJoined
import GoSem.ClaimMapViews
import Derived.JoinedTies
import Derived.KernelRfl
namespace Go.Proofs.YtkgbhcpeoaefjaaGreat
/- THE CELL 'sum', in the pinned program and in every row, IS THE sha256 OF THE DUMP (.gsa) THAT YtkgbhcpeoaefjaaGreatProg.lean LOADS. Nothing in Lean hashes anything: it is a label: what it is worth is what the hold of that sum in a sandbox is worth. -/
noncomputable def Tryz.pinned : Pinned := { name := "ytkgbhcpeoaefjaagreat", sum := "3731481c6a2c0e2d44fccdd6e4b4af14c35ff265706907cc5613e8b0dd42239a", checked := Tryz.checked }
namespace Rows
def none {H : Type} : Left H := { results := [], args := [] }

/-- 'millracelaw06.KernRefuses': WHATEVER THE INPUT: true; the input reads as it did. -/
def kernRefusesSpec : ChangeSpec := { name := "kernRefuses", fn := fun _ => fun
  | [d1, d2, d3] => { results := [.lit (.bool true)], args := [d1, d2, d3] }
  | _ => none }
def kernRefusesRow : OpenClaim := { program := "ytkgbhcpeoaefjaagreat", sum := "3731481c6a2c0e2d44fccdd6e4b4af14c35ff265706907cc5613e8b0dd42239a", func := "millrace/millracelaw06.KernRefuses", spec := "kernRefuses", unfollowed := true, recurses := true, apart := false }
def KernRefusesSaid : Prop := kernRefusesRow.holds Tryz.pinned (OpenSpec.ofChange kernRefusesSpec)

/-- ITS FALSE NEIGHBOUR: 'it returns false'. Refute it at one input. -/
def kernRefusesWrong : ChangeSpec := { name := "kernRefuses", fn := fun _ => fun
  | [d1, d2, d3] => { results := [.lit (.bool false)], args := [d1, d2, d3] }
  | _ => none }
def KernRefusesWrongFalsely : Prop := kernRefusesRow.holds Tryz.pinned (OpenSpec.ofChange kernRefusesWrong)

/-- 'millracelaw09.OpenmodeOpens': WHATEVER THE INPUT: true; the input reads as it did. -/
def openmodeOpensSpec : ChangeSpec := { name := "openmodeOpens", fn := fun _ => fun
  | [d1, d2, d3] => { results := [.lit (.bool true)], args := [d1, d2, d3] }
  | _ => none }
def openmodeOpensRow : OpenClaim := { program := "ytkgbhcpeoaefjaagreat", sum := "3731481c6a2c0e2d44fccdd6e4b4af14c35ff265706907cc5613e8b0dd42239a", func := "millrace/millracelaw09.OpenmodeOpens", spec := "openmodeOpens", unfollowed := true, recurses := true, apart := false }
def OpenmodeOpensSaid : Prop := openmodeOpensRow.holds Tryz.pinned (OpenSpec.ofChange openmodeOpensSpec)

/-- ITS FALSE NEIGHBOUR: 'it returns false'. Refute it at one input. -/
def openmodeOpensWrong : ChangeSpec := { name := "openmodeOpens", fn := fun _ => fun
  | [d1, d2, d3] => { results := [.lit (.bool false)], args := [d1, d2, d3] }
  | _ => none }
def OpenmodeOpensWrongFalsely : Prop := openmodeOpensRow.holds Tryz.pinned (OpenSpec.ofChange openmodeOpensWrong)

/- THE SECOND FORM. 'bulk': how many values and letters a reading holds, each counted each time it is reached (what is shared counts as often as it is met; a slice's spare places count too). A statement '..UptoSaid' is the law's where the arguments, and the package variables that the reading takes, are together of bulk at most 1048576: NARROWER than '..Said'. Prove '..Said' where nothing that the law and all that it calls make is longer than what came in: it says more and counts as full. Else prove '..UptoSaid'. A law counts once. -/
mutual
def uptoBulk {H : Type} : DataW H → Nat
  | .lit (.string bytes) => bytes.length + 1
  | .lit _ => 1
  | .nil => 1
  | .ptr d => uptoBulk d + 1
  | .slice elems spare => uptoBulkAll elems + uptoBulkAll spare + 1
  | .agg parts => uptoBulkAll parts + 1
  | .iface _ d => uptoBulk d + 1
  | .map entries => uptoBulkEntries entries + 1
  | .held _ => 1
def uptoBulkAll {H : Type} : List (DataW H) → Nat
  | [] => 0
  | d :: r => uptoBulk d + uptoBulkAll r
def uptoBulkEntries {H : Type} : List (Lit × DataW H) → Nat
  | [] => 0
  | x :: r => uptoBulkEntry x + uptoBulkEntries r
def uptoBulkEntry {H : Type} : Lit × DataW H → Nat
  | (.string bytes, d) => bytes.length + uptoBulk d + 1
  | (_, d) => uptoBulk d + 1
 end
def uptoSmall : (H : Type) → List (DataW H) → Bool := fun _ ds => decide (uptoBulkAll ds ≤ 1048576)
def OpenSpec.upto (s : _root_.Go.ChangeSpec) : _root_.Go.OpenSpec := { _root_.Go.OpenSpec.ofChange s with cond := some uptoSmall }

/-- 'millracelaw06.KernRefuses', WHERE WHAT IT READS IS OF BULK AT MOST 1048576: true; the input reads as it did. -/
def kernRefusesUptoRow : OpenClaim := { program := "ytkgbhcpeoaefjaagreat", sum := "3731481c6a2c0e2d44fccdd6e4b4af14c35ff265706907cc5613e8b0dd42239a", func := "millrace/millracelaw06.KernRefuses", spec := "kernRefuses", unfollowed := true, recurses := true, apart := false, narrowed := true }
def KernRefusesUptoSaid : Prop := kernRefusesUptoRow.holds Tryz.pinned (OpenSpec.upto kernRefusesSpec)

/-- 'millracelaw09.OpenmodeOpens', WHERE WHAT IT READS IS OF BULK AT MOST 1048576: true; the input reads as it did. -/
def openmodeOpensUptoRow : OpenClaim := { program := "ytkgbhcpeoaefjaagreat", sum := "3731481c6a2c0e2d44fccdd6e4b4af14c35ff265706907cc5613e8b0dd42239a", func := "millrace/millracelaw09.OpenmodeOpens", spec := "openmodeOpens", unfollowed := true, recurses := true, apart := false, narrowed := true }
def OpenmodeOpensUptoSaid : Prop := openmodeOpensUptoRow.holds Tryz.pinned (OpenSpec.upto openmodeOpensSpec)

end Rows
end Go.Proofs.YtkgbhcpeoaefjaaGreat

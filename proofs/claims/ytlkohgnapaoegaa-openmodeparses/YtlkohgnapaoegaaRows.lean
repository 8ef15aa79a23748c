/-
  No cell of these rows narrows 'for every input' (looked for: loops, veiled, ifaces, maps, wideKeys, modest, calm, conditions, laid).
  DERIVED. THE GIVEN ROWS OF THIS SEAT. 3 by the template 'for every input the law returns true; each argument reads behind the call as it read before'; 0 by the template 'total and deterministic' (their statements: YtlkohgnapaoegaaTotals.lean).
  GIVEN WITH THE SEED: the statements are not yours to turn. If you find one false, say at which input.
  Laid BY PROGRAM, IN A SANDBOX (cutbox-rows.mjs): the forced cells as the released guide's own fill.sh prints them over the translation 2d1cb3d30d20c3c5… (all of the seat's roots in one cut). By AI agents, Wed Nov 11 2026. No macro, syntax, notation, axiom, sorry.
-/
import Derived.Test.YtlkohgnapaoegaaChecked
import GoSem.Claim
import GoSem.ClaimJoined
import GoSem.ClaimMapViews
import Derived.JoinedTies
import Derived.KernelRfl
namespace Go.Proofs.Ytlkohgnapaoegaa
/- THE CELL 'sum', in the pinned program and in every row, IS THE sha256 OF THE DUMP (.gsa) THAT YtlkohgnapaoegaaProg.lean LOADS. Nothing in Lean hashes anything: it is a label: what it is worth is what the hold of that sum in a sandbox is worth. -/
noncomputable def Try.pinned : Pinned := { name := "ytlkohgnapaoegaa", sum := "2d1cb3d30d20c3c5c3c0554fc84315178d0851f75457f004ae5ec4e6e5d56298", checked := Try.checked }
namespace Rows
def none {H : Type} : Left H := { results := [], args := [] }

/-- 'millracelaw09.OpenmodeParses': WHATEVER THE INPUT: true; the input reads as it did. -/
def openmodeParsesSpec : ChangeSpec := { name := "openmodeParses", fn := fun _ => fun
  | [d] => { results := [.lit (.bool true)], args := [d] }
  | _ => none }
def openmodeParsesRow : OpenClaim := { program := "ytlkohgnapaoegaa", sum := "2d1cb3d30d20c3c5c3c0554fc84315178d0851f75457f004ae5ec4e6e5d56298", func := "millrace/millracelaw09.OpenmodeParses", spec := "openmodeParses", unfollowed := true, recurses := true, apart := false }
def OpenmodeParsesSaid : Prop := openmodeParsesRow.holds Try.pinned (OpenSpec.ofChange openmodeParsesSpec)

/-- ITS FALSE NEIGHBOUR: 'it returns false'. Refute it at one input. -/
def openmodeParsesWrong : ChangeSpec := { name := "openmodeParses", fn := fun _ => fun
  | [d] => { results := [.lit (.bool false)], args := [d] }
  | _ => none }
def OpenmodeParsesWrongFalsely : Prop := openmodeParsesRow.holds Try.pinned (OpenSpec.ofChange openmodeParsesWrong)

/-- 'millracelaw09.OpenmodePrints': WHATEVER THE INPUT: true; the input reads as it did. -/
def openmodePrintsSpec : ChangeSpec := { name := "openmodePrints", fn := fun _ => fun
  | [d] => { results := [.lit (.bool true)], args := [d] }
  | _ => none }
def openmodePrintsRow : OpenClaim := { program := "ytlkohgnapaoegaa", sum := "2d1cb3d30d20c3c5c3c0554fc84315178d0851f75457f004ae5ec4e6e5d56298", func := "millrace/millracelaw09.OpenmodePrints", spec := "openmodePrints", unfollowed := true, recurses := true, apart := false }
def OpenmodePrintsSaid : Prop := openmodePrintsRow.holds Try.pinned (OpenSpec.ofChange openmodePrintsSpec)

/-- ITS FALSE NEIGHBOUR: 'it returns false'. Refute it at one input. -/
def openmodePrintsWrong : ChangeSpec := { name := "openmodePrints", fn := fun _ => fun
  | [d] => { results := [.lit (.bool false)], args := [d] }
  | _ => none }
def OpenmodePrintsWrongFalsely : Prop := openmodePrintsRow.holds Try.pinned (OpenSpec.ofChange openmodePrintsWrong)

/-- 'millracelaw09.OpenmodeBack': WHATEVER THE INPUT: true; the input reads as it did. -/
def openmodeBackSpec : ChangeSpec := { name := "openmodeBack", fn := fun _ => fun
  | [d1, d2] => { results := [.lit (.bool true)], args := [d1, d2] }
  | _ => none }
def openmodeBackRow : OpenClaim := { program := "ytlkohgnapaoegaa", sum := "2d1cb3d30d20c3c5c3c0554fc84315178d0851f75457f004ae5ec4e6e5d56298", func := "millrace/millracelaw09.OpenmodeBack", spec := "openmodeBack", unfollowed := true, recurses := true, apart := false }
def OpenmodeBackSaid : Prop := openmodeBackRow.holds Try.pinned (OpenSpec.ofChange openmodeBackSpec)

/-- ITS FALSE NEIGHBOUR: 'it returns false'. Refute it at one input. -/
def openmodeBackWrong : ChangeSpec := { name := "openmodeBack", fn := fun _ => fun
  | [d1, d2] => { results := [.lit (.bool false)], args := [d1, d2] }
  | _ => none }
def OpenmodeBackWrongFalsely : Prop := openmodeBackRow.holds Try.pinned (OpenSpec.ofChange openmodeBackWrong)

/- THE SECOND FORM. 'bulk': how many values and letters a reading holds, each counted each time it is reached (what is shared counts as often as it is met; a slice's spare places count too). A statement '..UptoSaid' is the law's where the arguments, and the package variables that the reading takes, are together of bulk at most 1048576: NARROWER than '..Said'. Prove '..Said' where nothing that the law and all that it calls make is longer than what came in: it says more and counts as full. Else prove '..UptoSaid'. A law counts once. -/
mutual
def uptoBulk {H : Type} : DataW H → Nat
  | .lit (.string bytes) => bytes.length + 1
  | .lit _ => 1
  | .nil => 1
  | .ptr d => uptoBulk d + 1
  | .slice elems spare => uptoBulkAll elems + uptoBulkAll spare + 1
  | .agg parts => uptoBulkAll parts + 1
  | .iface _ d => uptoBulk d + 1
  | .map entries => uptoBulkEntries entries + 1
  | .held _ => 1
def uptoBulkAll {H : Type} : List (DataW H) → Nat
  | [] => 0
  | d :: r => uptoBulk d + uptoBulkAll r
def uptoBulkEntries {H : Type} : List (Lit × DataW H) → Nat
  | [] => 0
  | x :: r => uptoBulkEntry x + uptoBulkEntries r
def uptoBulkEntry {H : Type} : Lit × DataW H → Nat
  | (.string bytes, d) => bytes.length + uptoBulk d + 1
  | (_, d) => uptoBulk d + 1
 end
def uptoSmall : (H : Type) → List (DataW H) → Bool := fun _ ds => decide (uptoBulkAll ds ≤ 1048576)
def OpenSpec.upto (s : _root_.Go.ChangeSpec) : _root_.Go.OpenSpec := { _root_.Go.OpenSpec.ofChange s with cond := some uptoSmall }

/-- 'millracelaw09.OpenmodeParses', WHERE WHAT IT READS IS OF BULK AT MOST 1048576: true; the input reads as it did. -/
def openmodeParsesUptoRow : OpenClaim := { program := "ytlkohgnapaoegaa", sum := "2d1cb3d30d20c3c5c3c0554fc84315178d0851f75457f004ae5ec4e6e5d56298", func := "millrace/millracelaw09.OpenmodeParses", spec := "openmodeParses", unfollowed := true, recurses := true, apart := false, narrowed := true }
def OpenmodeParsesUptoSaid : Prop := openmodeParsesUptoRow.holds Try.pinned (OpenSpec.upto openmodeParsesSpec)

/-- 'millracelaw09.OpenmodePrints', WHERE WHAT IT READS IS OF BULK AT MOST 1048576: true; the input reads as it did. -/
def openmodePrintsUptoRow : OpenClaim := { program := "ytlkohgnapaoegaa", sum := "2d1cb3d30d20c3c5c3c0554fc84315178d0851f75457f004ae5ec4e6e5d56298", func := "millrace/millracelaw09.OpenmodePrints", spec := "openmodePrints", unfollowed := true, recurses := true, apart := false, narrowed := true }
def OpenmodePrintsUptoSaid : Prop := openmodePrintsUptoRow.holds Try.pinned (OpenSpec.upto openmodePrintsSpec)

/-- 'millracelaw09.OpenmodeBack', WHERE WHAT IT READS IS OF BULK AT MOST 1048576: true; the input reads as it did. -/
def openmodeBackUptoRow : OpenClaim := { program := "ytlkohgnapaoegaa", sum := "2d1cb3d30d20c3c5c3c0554fc84315178d0851f75457f004ae5ec4e6e5d56298", func := "millrace/millracelaw09.OpenmodeBack", spec := "openmodeBack", unfollowed := true, recurses := true, apart := false, narrowed := true }
def OpenmodeBackUptoSaid : Prop := openmodeBackUptoRow.holds Try.pinned (OpenSpec.upto openmodeBackSpec)

end Rows
end Go.Proofs.Ytlkohgnapaoegaa

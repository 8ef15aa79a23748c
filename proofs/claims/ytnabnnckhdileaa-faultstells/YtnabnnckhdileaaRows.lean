/-
  No cell of these rows narrows 'for every input' (looked for: loops, veiled, ifaces, maps, wideKeys, modest, calm, conditions, laid).
  DERIVED. THE GIVEN ROWS OF THIS SEAT. 5 by the template 'for every input the law returns true; each argument reads behind the call as it read before'; 0 by the template 'total and deterministic' (their statements: YtnabnnckhdileaaTotals.lean).
  GIVEN WITH THE SEED: the statements are not yours to turn. If you find one false, say at which input.
  Laid BY PROGRAM, IN A SANDBOX (cutbox-rows.mjs): the forced cells as the released guide's own fill.sh prints them over the translation 90147223771bb5a2… (all of the seat's roots in one cut). By AI agents, Wed Nov 11 2026. No macro, syntax, notation, axiom, sorry.
-/
import Derived.Test.YtnabnnckhdileaaChecked
import GoSem.Claim
import GoSem.ClaimJoined
import GoSem.ClaimMapViews
import Derived.JoinedTies
import Derived.KernelRfl
namespace Go.Proofs.Ytnabnnckhdileaa
/- THE CELL 'sum', in the pinned program and in every row, IS THE sha256 OF THE DUMP (.gsa) THAT YtnabnnckhdileaaProg.lean LOADS. Nothing in Lean hashes anything: it is a label: what it is worth is what the hold of that sum in a sandbox is worth. -/
noncomputable def Try.pinned : Pinned := { name := "ytnabnnckhdileaa", sum := "90147223771bb5a2567a5f797e7efb6da3baf1bc2f6cfcb1a2c27ce587c760fd", checked := Try.checked }
namespace Rows
def none {H : Type} : Left H := { results := [], args := [] }

/-- 'millracelaw02.FaultsTells': WHATEVER THE INPUT: true; the input reads as it did. -/
def faultsTellsSpec : ChangeSpec := { name := "faultsTells", fn := fun _ => fun
  | [d1, d2] => { results := [.lit (.bool true)], args := [d1, d2] }
  | _ => none }
def faultsTellsRow : OpenClaim := { program := "ytnabnnckhdileaa", sum := "90147223771bb5a2567a5f797e7efb6da3baf1bc2f6cfcb1a2c27ce587c760fd", func := "millrace/millracelaw02.FaultsTells", spec := "faultsTells", inPlace := ["internal/abi.NoEscape", "internal/bytealg.MakeNoZero", "internal/bytealg.IndexByteString", "internal/bytealg.IndexString"], unfollowed := true, recurses := true, named := ["internal/bytealg.MaxLen"], apart := false }
def FaultsTellsSaid : Prop := faultsTellsRow.holds Try.pinned (OpenSpec.ofChange faultsTellsSpec)

/-- ITS FALSE NEIGHBOUR: 'it returns false'. Refute it at one input. -/
def faultsTellsWrong : ChangeSpec := { name := "faultsTells", fn := fun _ => fun
  | [d1, d2] => { results := [.lit (.bool false)], args := [d1, d2] }
  | _ => none }
def FaultsTellsWrongFalsely : Prop := faultsTellsRow.holds Try.pinned (OpenSpec.ofChange faultsTellsWrong)

/-- 'millracelaw02.FaultsPlays': WHATEVER THE INPUT: true; the input reads as it did. -/
def faultsPlaysSpec : ChangeSpec := { name := "faultsPlays", fn := fun _ => fun
  | [d1, d2] => { results := [.lit (.bool true)], args := [d1, d2] }
  | _ => none }
def faultsPlaysRow : OpenClaim := { program := "ytnabnnckhdileaa", sum := "90147223771bb5a2567a5f797e7efb6da3baf1bc2f6cfcb1a2c27ce587c760fd", func := "millrace/millracelaw02.FaultsPlays", spec := "faultsPlays", inPlace := ["internal/abi.NoEscape", "internal/bytealg.MakeNoZero"], unfollowed := true, recurses := true, apart := false }
def FaultsPlaysSaid : Prop := faultsPlaysRow.holds Try.pinned (OpenSpec.ofChange faultsPlaysSpec)

/-- ITS FALSE NEIGHBOUR: 'it returns false'. Refute it at one input. -/
def faultsPlaysWrong : ChangeSpec := { name := "faultsPlays", fn := fun _ => fun
  | [d1, d2] => { results := [.lit (.bool false)], args := [d1, d2] }
  | _ => none }
def FaultsPlaysWrongFalsely : Prop := faultsPlaysRow.holds Try.pinned (OpenSpec.ofChange faultsPlaysWrong)

/-- 'millracelaw02.FaultsBack': WHATEVER THE INPUT: true; the input reads as it did. -/
def faultsBackSpec : ChangeSpec := { name := "faultsBack", fn := fun _ => fun
  | [d] => { results := [.lit (.bool true)], args := [d] }
  | _ => none }
def faultsBackRow : OpenClaim := { program := "ytnabnnckhdileaa", sum := "90147223771bb5a2567a5f797e7efb6da3baf1bc2f6cfcb1a2c27ce587c760fd", func := "millrace/millracelaw02.FaultsBack", spec := "faultsBack", inPlace := ["internal/abi.NoEscape", "internal/bytealg.MakeNoZero", "internal/bytealg.IndexByteString", "internal/bytealg.IndexString"], unfollowed := true, recurses := true, named := ["internal/bytealg.MaxLen"], apart := false }
def FaultsBackSaid : Prop := faultsBackRow.holds Try.pinned (OpenSpec.ofChange faultsBackSpec)

/-- ITS FALSE NEIGHBOUR: 'it returns false'. Refute it at one input. -/
def faultsBackWrong : ChangeSpec := { name := "faultsBack", fn := fun _ => fun
  | [d] => { results := [.lit (.bool false)], args := [d] }
  | _ => none }
def FaultsBackWrongFalsely : Prop := faultsBackRow.holds Try.pinned (OpenSpec.ofChange faultsBackWrong)

/-- 'millracelaw02.FaultsEnd': WHATEVER THE INPUT: true; the input reads as it did. -/
def faultsEndSpec : ChangeSpec := { name := "faultsEnd", fn := fun _ => fun
  | [d1, d2] => { results := [.lit (.bool true)], args := [d1, d2] }
  | _ => none }
def faultsEndRow : OpenClaim := { program := "ytnabnnckhdileaa", sum := "90147223771bb5a2567a5f797e7efb6da3baf1bc2f6cfcb1a2c27ce587c760fd", func := "millrace/millracelaw02.FaultsEnd", spec := "faultsEnd", inPlace := ["internal/abi.NoEscape", "internal/bytealg.MakeNoZero"], unfollowed := true, recurses := true, apart := false }
def FaultsEndSaid : Prop := faultsEndRow.holds Try.pinned (OpenSpec.ofChange faultsEndSpec)

/-- ITS FALSE NEIGHBOUR: 'it returns false'. Refute it at one input. -/
def faultsEndWrong : ChangeSpec := { name := "faultsEnd", fn := fun _ => fun
  | [d1, d2] => { results := [.lit (.bool false)], args := [d1, d2] }
  | _ => none }
def FaultsEndWrongFalsely : Prop := faultsEndRow.holds Try.pinned (OpenSpec.ofChange faultsEndWrong)

/-- 'millracelaw02.FaultsOwn': WHATEVER THE INPUT: true; the input reads as it did. -/
def faultsOwnSpec : ChangeSpec := { name := "faultsOwn", fn := fun _ => fun
  | [d] => { results := [.lit (.bool true)], args := [d] }
  | _ => none }
def faultsOwnRow : OpenClaim := { program := "ytnabnnckhdileaa", sum := "90147223771bb5a2567a5f797e7efb6da3baf1bc2f6cfcb1a2c27ce587c760fd", func := "millrace/millracelaw02.FaultsOwn", spec := "faultsOwn", inPlace := ["internal/abi.NoEscape", "internal/bytealg.MakeNoZero"], unfollowed := true, recurses := true, apart := false }
def FaultsOwnSaid : Prop := faultsOwnRow.holds Try.pinned (OpenSpec.ofChange faultsOwnSpec)

/-- ITS FALSE NEIGHBOUR: 'it returns false'. Refute it at one input. -/
def faultsOwnWrong : ChangeSpec := { name := "faultsOwn", fn := fun _ => fun
  | [d] => { results := [.lit (.bool false)], args := [d] }
  | _ => none }
def FaultsOwnWrongFalsely : Prop := faultsOwnRow.holds Try.pinned (OpenSpec.ofChange faultsOwnWrong)

/- THE SECOND FORM. 'bulk': how many values and letters a reading holds, each counted each time it is reached (what is shared counts as often as it is met; a slice's spare places count too). A statement '..UptoSaid' is the law's where the arguments, and the package variables that the reading takes, are together of bulk at most 1048576: NARROWER than '..Said'. Prove '..Said' where nothing that the law and all that it calls make is longer than what came in: it says more and counts as full. Else prove '..UptoSaid'. A law counts once. -/
mutual
def uptoBulk {H : Type} : DataW H → Nat
  | .lit (.string bytes) => bytes.length + 1
  | .lit _ => 1
  | .nil => 1
  | .ptr d => uptoBulk d + 1
  | .slice elems spare => uptoBulkAll elems + uptoBulkAll spare + 1
  | .agg parts => uptoBulkAll parts + 1
  | .iface _ d => uptoBulk d + 1
  | .map entries => uptoBulkEntries entries + 1
  | .held _ => 1
def uptoBulkAll {H : Type} : List (DataW H) → Nat
  | [] => 0
  | d :: r => uptoBulk d + uptoBulkAll r
def uptoBulkEntries {H : Type} : List (Lit × DataW H) → Nat
  | [] => 0
  | x :: r => uptoBulkEntry x + uptoBulkEntries r
def uptoBulkEntry {H : Type} : Lit × DataW H → Nat
  | (.string bytes, d) => bytes.length + uptoBulk d + 1
  | (_, d) => uptoBulk d + 1
 end
def uptoSmall : (H : Type) → List (DataW H) → Bool := fun _ ds => decide (uptoBulkAll ds ≤ 1048576)
def OpenSpec.upto (s : _root_.Go.ChangeSpec) : _root_.Go.OpenSpec := { _root_.Go.OpenSpec.ofChange s with cond := some uptoSmall }

/-- 'millracelaw02.FaultsTells', WHERE WHAT IT READS IS OF BULK AT MOST 1048576: true; the input reads as it did. -/
def faultsTellsUptoRow : OpenClaim := { program := "ytnabnnckhdileaa", sum := "90147223771bb5a2567a5f797e7efb6da3baf1bc2f6cfcb1a2c27ce587c760fd", func := "millrace/millracelaw02.FaultsTells", spec := "faultsTells", inPlace := ["internal/abi.NoEscape", "internal/bytealg.MakeNoZero", "internal/bytealg.IndexByteString", "internal/bytealg.IndexString"], unfollowed := true, recurses := true, named := ["internal/bytealg.MaxLen"], apart := false, narrowed := true }
def FaultsTellsUptoSaid : Prop := faultsTellsUptoRow.holds Try.pinned (OpenSpec.upto faultsTellsSpec)

/-- 'millracelaw02.FaultsPlays', WHERE WHAT IT READS IS OF BULK AT MOST 1048576: true; the input reads as it did. -/
def faultsPlaysUptoRow : OpenClaim := { program := "ytnabnnckhdileaa", sum := "90147223771bb5a2567a5f797e7efb6da3baf1bc2f6cfcb1a2c27ce587c760fd", func := "millrace/millracelaw02.FaultsPlays", spec := "faultsPlays", inPlace := ["internal/abi.NoEscape", "internal/bytealg.MakeNoZero"], unfollowed := true, recurses := true, apart := false, narrowed := true }
def FaultsPlaysUptoSaid : Prop := faultsPlaysUptoRow.holds Try.pinned (OpenSpec.upto faultsPlaysSpec)

/-- 'millracelaw02.FaultsBack', WHERE WHAT IT READS IS OF BULK AT MOST 1048576: true; the input reads as it did. -/
def faultsBackUptoRow : OpenClaim := { program := "ytnabnnckhdileaa", sum := "90147223771bb5a2567a5f797e7efb6da3baf1bc2f6cfcb1a2c27ce587c760fd", func := "millrace/millracelaw02.FaultsBack", spec := "faultsBack", inPlace := ["internal/abi.NoEscape", "internal/bytealg.MakeNoZero", "internal/bytealg.IndexByteString", "internal/bytealg.IndexString"], unfollowed := true, recurses := true, named := ["internal/bytealg.MaxLen"], apart := false, narrowed := true }
def FaultsBackUptoSaid : Prop := faultsBackUptoRow.holds Try.pinned (OpenSpec.upto faultsBackSpec)

/-- 'millracelaw02.FaultsEnd', WHERE WHAT IT READS IS OF BULK AT MOST 1048576: true; the input reads as it did. -/
def faultsEndUptoRow : OpenClaim := { program := "ytnabnnckhdileaa", sum := "90147223771bb5a2567a5f797e7efb6da3baf1bc2f6cfcb1a2c27ce587c760fd", func := "millrace/millracelaw02.FaultsEnd", spec := "faultsEnd", inPlace := ["internal/abi.NoEscape", "internal/bytealg.MakeNoZero"], unfollowed := true, recurses := true, apart := false, narrowed := true }
def FaultsEndUptoSaid : Prop := faultsEndUptoRow.holds Try.pinned (OpenSpec.upto faultsEndSpec)

/-- 'millracelaw02.FaultsOwn', WHERE WHAT IT READS IS OF BULK AT MOST 1048576: true; the input reads as it did. -/
def faultsOwnUptoRow : OpenClaim := { program := "ytnabnnckhdileaa", sum := "90147223771bb5a2567a5f797e7efb6da3baf1bc2f6cfcb1a2c27ce587c760fd", func := "millrace/millracelaw02.FaultsOwn", spec := "faultsOwn", inPlace := ["internal/abi.NoEscape", "internal/bytealg.MakeNoZero"], unfollowed := true, recurses := true, apart := false, narrowed := true }
def FaultsOwnUptoSaid : Prop := faultsOwnUptoRow.holds Try.pinned (OpenSpec.upto faultsOwnSpec)

end Rows
end Go.Proofs.Ytnabnnckhdileaa

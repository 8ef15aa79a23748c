/-
  No cell of these rows narrows 'for every input' (looked for: loops, veiled, ifaces, maps, wideKeys, modest, calm, conditions, laid).
  DERIVED. THE GIVEN ROWS OF THIS SEAT. 4 by the template 'for every input the law returns true; each argument reads behind the call as it read before'; 0 by the template 'total and deterministic' (their statements: YtoihblhhifcpnaaTotals.lean).
  GIVEN WITH THE SEED: the statements are not yours to turn. If you find one false, say at which input.
  Laid BY PROGRAM, IN A SANDBOX (cutbox-rows.mjs): the forced cells as the released guide's own fill.sh prints them over the translation 3a0c92ea8853e95f… (all of the seat's roots in one cut). By AI agents, Wed Nov 11 2026. No macro, syntax, notation, axiom, sorry.
-/
import Derived.Test.YtoihblhhifcpnaaChecked
import GoSem.Claim
import GoSem.ClaimJoined
import GoSem.ClaimMapViews
import Derived.JoinedTies
import Derived.KernelRfl
namespace Go.Proofs.Ytoihblhhifcpnaa
/- THE CELL 'sum', in the pinned program and in every row, IS THE sha256 OF THE DUMP (.gsa) THAT YtoihblhhifcpnaaProg.lean LOADS. Nothing in Lean hashes anything: it is a label: what it is worth is what the hold of that sum in a sandbox is worth. -/
noncomputable def Try.pinned : Pinned := { name := "ytoihblhhifcpnaa", sum := "3a0c92ea8853e95f3ebe87e5e3027fd7a362cdb5c32c0c5fb34619007a6805a0", checked := Try.checked }
namespace Rows
def none {H : Type} : Left H := { results := [], args := [] }

/-- 'millracelaw04.TerminalPlays': WHATEVER THE INPUT: true; the input reads as it did. -/
def terminalPlaysSpec : ChangeSpec := { name := "terminalPlays", fn := fun _ => fun
  | [d1, d2] => { results := [.lit (.bool true)], args := [d1, d2] }
  | _ => none }
def terminalPlaysRow : OpenClaim := { program := "ytoihblhhifcpnaa", sum := "3a0c92ea8853e95f3ebe87e5e3027fd7a362cdb5c32c0c5fb34619007a6805a0", func := "millrace/millracelaw04.TerminalPlays", spec := "terminalPlays", apart := false }
def TerminalPlaysSaid : Prop := terminalPlaysRow.holds Try.pinned (OpenSpec.ofChange terminalPlaysSpec)

/-- ITS FALSE NEIGHBOUR: 'it returns false'. Refute it at one input. -/
def terminalPlaysWrong : ChangeSpec := { name := "terminalPlays", fn := fun _ => fun
  | [d1, d2] => { results := [.lit (.bool false)], args := [d1, d2] }
  | _ => none }
def TerminalPlaysWrongFalsely : Prop := terminalPlaysRow.holds Try.pinned (OpenSpec.ofChange terminalPlaysWrong)

/-- 'millracelaw04.TerminalLines': WHATEVER THE INPUT: true; the input reads as it did. -/
def terminalLinesSpec : ChangeSpec := { name := "terminalLines", fn := fun _ => fun
  | [d1, d2] => { results := [.lit (.bool true)], args := [d1, d2] }
  | _ => none }
def terminalLinesRow : OpenClaim := { program := "ytoihblhhifcpnaa", sum := "3a0c92ea8853e95f3ebe87e5e3027fd7a362cdb5c32c0c5fb34619007a6805a0", func := "millrace/millracelaw04.TerminalLines", spec := "terminalLines", apart := false }
def TerminalLinesSaid : Prop := terminalLinesRow.holds Try.pinned (OpenSpec.ofChange terminalLinesSpec)

/-- ITS FALSE NEIGHBOUR: 'it returns false'. Refute it at one input. -/
def terminalLinesWrong : ChangeSpec := { name := "terminalLines", fn := fun _ => fun
  | [d1, d2] => { results := [.lit (.bool false)], args := [d1, d2] }
  | _ => none }
def TerminalLinesWrongFalsely : Prop := terminalLinesRow.holds Try.pinned (OpenSpec.ofChange terminalLinesWrong)

/-- 'millracelaw04.TerminalOwn': WHATEVER THE INPUT: true; the input reads as it did. -/
def terminalOwnSpec : ChangeSpec := { name := "terminalOwn", fn := fun _ => fun
  | [d1, d2] => { results := [.lit (.bool true)], args := [d1, d2] }
  | _ => none }
def terminalOwnRow : OpenClaim := { program := "ytoihblhhifcpnaa", sum := "3a0c92ea8853e95f3ebe87e5e3027fd7a362cdb5c32c0c5fb34619007a6805a0", func := "millrace/millracelaw04.TerminalOwn", spec := "terminalOwn", apart := false }
def TerminalOwnSaid : Prop := terminalOwnRow.holds Try.pinned (OpenSpec.ofChange terminalOwnSpec)

/-- ITS FALSE NEIGHBOUR: 'it returns false'. Refute it at one input. -/
def terminalOwnWrong : ChangeSpec := { name := "terminalOwn", fn := fun _ => fun
  | [d1, d2] => { results := [.lit (.bool false)], args := [d1, d2] }
  | _ => none }
def TerminalOwnWrongFalsely : Prop := terminalOwnRow.holds Try.pinned (OpenSpec.ofChange terminalOwnWrong)

/-- 'millracelaw04.TerminalScreen': WHATEVER THE INPUT: true; the input reads as it did. -/
def terminalScreenSpec : ChangeSpec := { name := "terminalScreen", fn := fun _ => fun
  | [d1, d2] => { results := [.lit (.bool true)], args := [d1, d2] }
  | _ => none }
def terminalScreenRow : OpenClaim := { program := "ytoihblhhifcpnaa", sum := "3a0c92ea8853e95f3ebe87e5e3027fd7a362cdb5c32c0c5fb34619007a6805a0", func := "millrace/millracelaw04.TerminalScreen", spec := "terminalScreen", apart := false }
def TerminalScreenSaid : Prop := terminalScreenRow.holds Try.pinned (OpenSpec.ofChange terminalScreenSpec)

/-- ITS FALSE NEIGHBOUR: 'it returns false'. Refute it at one input. -/
def terminalScreenWrong : ChangeSpec := { name := "terminalScreen", fn := fun _ => fun
  | [d1, d2] => { results := [.lit (.bool false)], args := [d1, d2] }
  | _ => none }
def TerminalScreenWrongFalsely : Prop := terminalScreenRow.holds Try.pinned (OpenSpec.ofChange terminalScreenWrong)

/- THE SECOND FORM. 'bulk': how many values and letters a reading holds, each counted each time it is reached (what is shared counts as often as it is met; a slice's spare places count too). A statement '..UptoSaid' is the law's where the arguments, and the package variables that the reading takes, are together of bulk at most 1048576: NARROWER than '..Said'. Prove '..Said' where nothing that the law and all that it calls make is longer than what came in: it says more and counts as full. Else prove '..UptoSaid'. A law counts once. -/
mutual
def uptoBulk {H : Type} : DataW H → Nat
  | .lit (.string bytes) => bytes.length + 1
  | .lit _ => 1
  | .nil => 1
  | .ptr d => uptoBulk d + 1
  | .slice elems spare => uptoBulkAll elems + uptoBulkAll spare + 1
  | .agg parts => uptoBulkAll parts + 1
  | .iface _ d => uptoBulk d + 1
  | .map entries => uptoBulkEntries entries + 1
  | .held _ => 1
def uptoBulkAll {H : Type} : List (DataW H) → Nat
  | [] => 0
  | d :: r => uptoBulk d + uptoBulkAll r
def uptoBulkEntries {H : Type} : List (Lit × DataW H) → Nat
  | [] => 0
  | x :: r => uptoBulkEntry x + uptoBulkEntries r
def uptoBulkEntry {H : Type} : Lit × DataW H → Nat
  | (.string bytes, d) => bytes.length + uptoBulk d + 1
  | (_, d) => uptoBulk d + 1
 end
def uptoSmall : (H : Type) → List (DataW H) → Bool := fun _ ds => decide (uptoBulkAll ds ≤ 1048576)
def OpenSpec.upto (s : _root_.Go.ChangeSpec) : _root_.Go.OpenSpec := { _root_.Go.OpenSpec.ofChange s with cond := some uptoSmall }

/-- 'millracelaw04.TerminalPlays', WHERE WHAT IT READS IS OF BULK AT MOST 1048576: true; the input reads as it did. -/
def terminalPlaysUptoRow : OpenClaim := { program := "ytoihblhhifcpnaa", sum := "3a0c92ea8853e95f3ebe87e5e3027fd7a362cdb5c32c0c5fb34619007a6805a0", func := "millrace/millracelaw04.TerminalPlays", spec := "terminalPlays", apart := false, narrowed := true }
def TerminalPlaysUptoSaid : Prop := terminalPlaysUptoRow.holds Try.pinned (OpenSpec.upto terminalPlaysSpec)

/-- 'millracelaw04.TerminalLines', WHERE WHAT IT READS IS OF BULK AT MOST 1048576: true; the input reads as it did. -/
def terminalLinesUptoRow : OpenClaim := { program := "ytoihblhhifcpnaa", sum := "3a0c92ea8853e95f3ebe87e5e3027fd7a362cdb5c32c0c5fb34619007a6805a0", func := "millrace/millracelaw04.TerminalLines", spec := "terminalLines", apart := false, narrowed := true }
def TerminalLinesUptoSaid : Prop := terminalLinesUptoRow.holds Try.pinned (OpenSpec.upto terminalLinesSpec)

/-- 'millracelaw04.TerminalOwn', WHERE WHAT IT READS IS OF BULK AT MOST 1048576: true; the input reads as it did. -/
def terminalOwnUptoRow : OpenClaim := { program := "ytoihblhhifcpnaa", sum := "3a0c92ea8853e95f3ebe87e5e3027fd7a362cdb5c32c0c5fb34619007a6805a0", func := "millrace/millracelaw04.TerminalOwn", spec := "terminalOwn", apart := false, narrowed := true }
def TerminalOwnUptoSaid : Prop := terminalOwnUptoRow.holds Try.pinned (OpenSpec.upto terminalOwnSpec)

/-- 'millracelaw04.TerminalScreen', WHERE WHAT IT READS IS OF BULK AT MOST 1048576: true; the input reads as it did. -/
def terminalScreenUptoRow : OpenClaim := { program := "ytoihblhhifcpnaa", sum := "3a0c92ea8853e95f3ebe87e5e3027fd7a362cdb5c32c0c5fb34619007a6805a0", func := "millrace/millracelaw04.TerminalScreen", spec := "terminalScreen", apart := false, narrowed := true }
def TerminalScreenUptoSaid : Prop := terminalScreenUptoRow.holds Try.pinned (OpenSpec.upto terminalScreenSpec)

end Rows
end Go.Proofs.Ytoihblhhifcpnaa

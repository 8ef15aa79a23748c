/-
  No cell of these rows narrows 'for every input' (looked for: loops, veiled, ifaces, maps, wideKeys, modest, calm, conditions, laid).
  DERIVED. THE GIVEN ROWS OF THIS SEAT. 3 by the template 'for every input the law returns true; each argument reads behind the call as it read before'; 0 by the template 'total and deterministic' (their statements: YtbhlnmekhgfgcaaTotals.lean).
  GIVEN WITH THE SEED: the statements are not yours to turn. If you find one false, say at which input.
  Laid BY PROGRAM, IN A SANDBOX (cutbox-rows.mjs): the forced cells as the released guide's own fill.sh prints them over the translation db0967c890d9ed0d… (all of the seat's roots in one cut). By AI agents, Wed Nov 11 2026. No macro, syntax, notation, axiom, sorry.
-/
import Derived.Test.YtbhlnmekhgfgcaaChecked
import GoSem.Claim
import GoSem.ClaimJoined
import GoSem.ClaimMapViews
import Derived.JoinedTies
import Derived.KernelRfl
namespace Go.Proofs.Ytbhlnmekhgfgcaa
/- THE CELL 'sum', in the pinned program and in every row, IS THE sha256 OF THE DUMP (.gsa) THAT YtbhlnmekhgfgcaaProg.lean LOADS. Nothing in Lean hashes anything: it is a label: what it is worth is what the hold of that sum in a sandbox is worth. -/
noncomputable def Try.pinned : Pinned := { name := "ytbhlnmekhgfgcaa", sum := "db0967c890d9ed0d29d5fec0e1d6908055e58e1ed62f3990d94f9eb05f1282e5", checked := Try.checked }
namespace Rows
def none {H : Type} : Left H := { results := [], args := [] }

/-- 'millracelaw07.FdtableLowest': WHATEVER THE INPUT: true; the input reads as it did. -/
def fdtableLowestSpec : ChangeSpec := { name := "fdtableLowest", fn := fun _ => fun
  | [d] => { results := [.lit (.bool true)], args := [d] }
  | _ => none }
def fdtableLowestRow : OpenClaim := { program := "ytbhlnmekhgfgcaa", sum := "db0967c890d9ed0d29d5fec0e1d6908055e58e1ed62f3990d94f9eb05f1282e5", func := "millrace/millracelaw07.FdtableLowest", spec := "fdtableLowest", unfollowed := true, recurses := true, apart := false }
def FdtableLowestSaid : Prop := fdtableLowestRow.holds Try.pinned (OpenSpec.ofChange fdtableLowestSpec)

/-- ITS FALSE NEIGHBOUR: 'it returns false'. Refute it at one input. -/
def fdtableLowestWrong : ChangeSpec := { name := "fdtableLowest", fn := fun _ => fun
  | [d] => { results := [.lit (.bool false)], args := [d] }
  | _ => none }
def FdtableLowestWrongFalsely : Prop := fdtableLowestRow.holds Try.pinned (OpenSpec.ofChange fdtableLowestWrong)

/-- 'millracelaw07.FdtableShares': WHATEVER THE INPUT: true; the input reads as it did. -/
def fdtableSharesSpec : ChangeSpec := { name := "fdtableShares", fn := fun _ => fun
  | [d1, d2] => { results := [.lit (.bool true)], args := [d1, d2] }
  | _ => none }
def fdtableSharesRow : OpenClaim := { program := "ytbhlnmekhgfgcaa", sum := "db0967c890d9ed0d29d5fec0e1d6908055e58e1ed62f3990d94f9eb05f1282e5", func := "millrace/millracelaw07.FdtableShares", spec := "fdtableShares", unfollowed := true, recurses := true, apart := false }
def FdtableSharesSaid : Prop := fdtableSharesRow.holds Try.pinned (OpenSpec.ofChange fdtableSharesSpec)

/-- ITS FALSE NEIGHBOUR: 'it returns false'. Refute it at one input. -/
def fdtableSharesWrong : ChangeSpec := { name := "fdtableShares", fn := fun _ => fun
  | [d1, d2] => { results := [.lit (.bool false)], args := [d1, d2] }
  | _ => none }
def FdtableSharesWrongFalsely : Prop := fdtableSharesRow.holds Try.pinned (OpenSpec.ofChange fdtableSharesWrong)

/-- 'millracelaw07.FdtableDrops': WHATEVER THE INPUT: true; the input reads as it did. -/
def fdtableDropsSpec : ChangeSpec := { name := "fdtableDrops", fn := fun _ => fun
  | [d1, d2] => { results := [.lit (.bool true)], args := [d1, d2] }
  | _ => none }
def fdtableDropsRow : OpenClaim := { program := "ytbhlnmekhgfgcaa", sum := "db0967c890d9ed0d29d5fec0e1d6908055e58e1ed62f3990d94f9eb05f1282e5", func := "millrace/millracelaw07.FdtableDrops", spec := "fdtableDrops", unfollowed := true, recurses := true, apart := false }
def FdtableDropsSaid : Prop := fdtableDropsRow.holds Try.pinned (OpenSpec.ofChange fdtableDropsSpec)

/-- ITS FALSE NEIGHBOUR: 'it returns false'. Refute it at one input. -/
def fdtableDropsWrong : ChangeSpec := { name := "fdtableDrops", fn := fun _ => fun
  | [d1, d2] => { results := [.lit (.bool false)], args := [d1, d2] }
  | _ => none }
def FdtableDropsWrongFalsely : Prop := fdtableDropsRow.holds Try.pinned (OpenSpec.ofChange fdtableDropsWrong)

/- THE SECOND FORM. 'bulk': how many values and letters a reading holds, each counted each time it is reached (what is shared counts as often as it is met; a slice's spare places count too). A statement '..UptoSaid' is the law's where the arguments, and the package variables that the reading takes, are together of bulk at most 1048576: NARROWER than '..Said'. Prove '..Said' where nothing that the law and all that it calls make is longer than what came in: it says more and counts as full. Else prove '..UptoSaid'. A law counts once. -/
mutual
def uptoBulk {H : Type} : DataW H → Nat
  | .lit (.string bytes) => bytes.length + 1
  | .lit _ => 1
  | .nil => 1
  | .ptr d => uptoBulk d + 1
  | .slice elems spare => uptoBulkAll elems + uptoBulkAll spare + 1
  | .agg parts => uptoBulkAll parts + 1
  | .iface _ d => uptoBulk d + 1
  | .map entries => uptoBulkEntries entries + 1
  | .held _ => 1
def uptoBulkAll {H : Type} : List (DataW H) → Nat
  | [] => 0
  | d :: r => uptoBulk d + uptoBulkAll r
def uptoBulkEntries {H : Type} : List (Lit × DataW H) → Nat
  | [] => 0
  | x :: r => uptoBulkEntry x + uptoBulkEntries r
def uptoBulkEntry {H : Type} : Lit × DataW H → Nat
  | (.string bytes, d) => bytes.length + uptoBulk d + 1
  | (_, d) => uptoBulk d + 1
 end
def uptoSmall : (H : Type) → List (DataW H) → Bool := fun _ ds => decide (uptoBulkAll ds ≤ 1048576)
def OpenSpec.upto (s : _root_.Go.ChangeSpec) : _root_.Go.OpenSpec := { _root_.Go.OpenSpec.ofChange s with cond := some uptoSmall }

/-- 'millracelaw07.FdtableLowest', WHERE WHAT IT READS IS OF BULK AT MOST 1048576: true; the input reads as it did. -/
def fdtableLowestUptoRow : OpenClaim := { program := "ytbhlnmekhgfgcaa", sum := "db0967c890d9ed0d29d5fec0e1d6908055e58e1ed62f3990d94f9eb05f1282e5", func := "millrace/millracelaw07.FdtableLowest", spec := "fdtableLowest", unfollowed := true, recurses := true, apart := false, narrowed := true }
def FdtableLowestUptoSaid : Prop := fdtableLowestUptoRow.holds Try.pinned (OpenSpec.upto fdtableLowestSpec)

/-- 'millracelaw07.FdtableShares', WHERE WHAT IT READS IS OF BULK AT MOST 1048576: true; the input reads as it did. -/
def fdtableSharesUptoRow : OpenClaim := { program := "ytbhlnmekhgfgcaa", sum := "db0967c890d9ed0d29d5fec0e1d6908055e58e1ed62f3990d94f9eb05f1282e5", func := "millrace/millracelaw07.FdtableShares", spec := "fdtableShares", unfollowed := true, recurses := true, apart := false, narrowed := true }
def FdtableSharesUptoSaid : Prop := fdtableSharesUptoRow.holds Try.pinned (OpenSpec.upto fdtableSharesSpec)

/-- 'millracelaw07.FdtableDrops', WHERE WHAT IT READS IS OF BULK AT MOST 1048576: true; the input reads as it did. -/
def fdtableDropsUptoRow : OpenClaim := { program := "ytbhlnmekhgfgcaa", sum := "db0967c890d9ed0d29d5fec0e1d6908055e58e1ed62f3990d94f9eb05f1282e5", func := "millrace/millracelaw07.FdtableDrops", spec := "fdtableDrops", unfollowed := true, recurses := true, apart := false, narrowed := true }
def FdtableDropsUptoSaid : Prop := fdtableDropsUptoRow.holds Try.pinned (OpenSpec.upto fdtableDropsSpec)

end Rows
end Go.Proofs.Ytbhlnmekhgfgcaa

/-
  No cell of these rows narrows 'for every input' (looked for: loops, veiled, ifaces, maps, wideKeys, modest, calm, conditions, laid).
  DERIVED. THE GIVEN ROWS OF THIS SEAT. 5 by the template 'for every input the law returns true; each argument reads behind the call as it read before'; 0 by the template 'total and deterministic' (their statements: YtibnpeipndkciaaTotals.lean).
  GIVEN WITH THE SEED: the statements are not yours to turn. If you find one false, say at which input.
  Laid BY PROGRAM, IN A SANDBOX (cutbox-rows.mjs): the forced cells as the released guide's own fill.sh prints them over the translation b873a628b51f71b6… (all of the seat's roots in one cut). By AI agents, Wed Nov 11 2026. No macro, syntax, notation, axiom, sorry.
-/
import Derived.Test.YtibnpeipndkciaaChecked
import GoSem.Claim
import GoSem.ClaimJoined
import GoSem.ClaimMapViews
import Derived.JoinedTies
import Derived.KernelRfl
namespace Go.Proofs.Ytibnpeipndkciaa
/- THE CELL 'sum', in the pinned program and in every row, IS THE sha256 OF THE DUMP (.gsa) THAT YtibnpeipndkciaaProg.lean LOADS. Nothing in Lean hashes anything: it is a label: what it is worth is what the hold of that sum in a sandbox is worth. -/
noncomputable def Try.pinned : Pinned := { name := "ytibnpeipndkciaa", sum := "b873a628b51f71b6a18b80351f10c8ce6aad69f2e56e8ed78ad3430524b307f9", checked := Try.checked }
namespace Rows
def none {H : Type} : Left H := { results := [], args := [] }

/-- 'millracelaw12.BufmodeCounts': WHATEVER THE INPUT: true; the input reads as it did. -/
def bufmodeCountsSpec : ChangeSpec := { name := "bufmodeCounts", fn := fun _ => fun
  | [d1, d2, d3, d4, d5] => { results := [.lit (.bool true)], args := [d1, d2, d3, d4, d5] }
  | _ => none }
def bufmodeCountsRow : OpenClaim := { program := "ytibnpeipndkciaa", sum := "b873a628b51f71b6a18b80351f10c8ce6aad69f2e56e8ed78ad3430524b307f9", func := "millrace/millracelaw12.BufmodeCounts", spec := "bufmodeCounts", inPlace := ["internal/bytealg.IndexByte"], unfollowed := true, recurses := true, apart := false }
def BufmodeCountsSaid : Prop := bufmodeCountsRow.holds Try.pinned (OpenSpec.ofChange bufmodeCountsSpec)

/-- ITS FALSE NEIGHBOUR: 'it returns false'. Refute it at one input. -/
def bufmodeCountsWrong : ChangeSpec := { name := "bufmodeCounts", fn := fun _ => fun
  | [d1, d2, d3, d4, d5] => { results := [.lit (.bool false)], args := [d1, d2, d3, d4, d5] }
  | _ => none }
def BufmodeCountsWrongFalsely : Prop := bufmodeCountsRow.holds Try.pinned (OpenSpec.ofChange bufmodeCountsWrong)

/-- 'millracelaw12.BufmodeSums': WHATEVER THE INPUT: true; the input reads as it did. -/
def bufmodeSumsSpec : ChangeSpec := { name := "bufmodeSums", fn := fun _ => fun
  | [d1, d2, d3] => { results := [.lit (.bool true)], args := [d1, d2, d3] }
  | _ => none }
def bufmodeSumsRow : OpenClaim := { program := "ytibnpeipndkciaa", sum := "b873a628b51f71b6a18b80351f10c8ce6aad69f2e56e8ed78ad3430524b307f9", func := "millrace/millracelaw12.BufmodeSums", spec := "bufmodeSums", inPlace := ["internal/bytealg.IndexByte"], unfollowed := true, recurses := true, apart := false }
def BufmodeSumsSaid : Prop := bufmodeSumsRow.holds Try.pinned (OpenSpec.ofChange bufmodeSumsSpec)

/-- ITS FALSE NEIGHBOUR: 'it returns false'. Refute it at one input. -/
def bufmodeSumsWrong : ChangeSpec := { name := "bufmodeSums", fn := fun _ => fun
  | [d1, d2, d3] => { results := [.lit (.bool false)], args := [d1, d2, d3] }
  | _ => none }
def BufmodeSumsWrongFalsely : Prop := bufmodeSumsRow.holds Try.pinned (OpenSpec.ofChange bufmodeSumsWrong)

/-- 'millracelaw12.BufmodeTrue': WHATEVER THE INPUT: true; the input reads as it did. -/
def bufmodeTrueSpec : ChangeSpec := { name := "bufmodeTrue", fn := fun _ => fun
  | [d1, d2, d3, d4] => { results := [.lit (.bool true)], args := [d1, d2, d3, d4] }
  | _ => none }
def bufmodeTrueRow : OpenClaim := { program := "ytibnpeipndkciaa", sum := "b873a628b51f71b6a18b80351f10c8ce6aad69f2e56e8ed78ad3430524b307f9", func := "millrace/millracelaw12.BufmodeTrue", spec := "bufmodeTrue", inPlace := ["internal/bytealg.IndexByte"], unfollowed := true, recurses := true, apart := false }
def BufmodeTrueSaid : Prop := bufmodeTrueRow.holds Try.pinned (OpenSpec.ofChange bufmodeTrueSpec)

/-- ITS FALSE NEIGHBOUR: 'it returns false'. Refute it at one input. -/
def bufmodeTrueWrong : ChangeSpec := { name := "bufmodeTrue", fn := fun _ => fun
  | [d1, d2, d3, d4] => { results := [.lit (.bool false)], args := [d1, d2, d3, d4] }
  | _ => none }
def BufmodeTrueWrongFalsely : Prop := bufmodeTrueRow.holds Try.pinned (OpenSpec.ofChange bufmodeTrueWrong)

/-- 'millracelaw12.BufmodeTaken': WHATEVER THE INPUT: true; the input reads as it did. -/
def bufmodeTakenSpec : ChangeSpec := { name := "bufmodeTaken", fn := fun _ => fun
  | [d1, d2, d3, d4] => { results := [.lit (.bool true)], args := [d1, d2, d3, d4] }
  | _ => none }
def bufmodeTakenRow : OpenClaim := { program := "ytibnpeipndkciaa", sum := "b873a628b51f71b6a18b80351f10c8ce6aad69f2e56e8ed78ad3430524b307f9", func := "millrace/millracelaw12.BufmodeTaken", spec := "bufmodeTaken", inPlace := ["internal/bytealg.IndexByte"], unfollowed := true, recurses := true, apart := false }
def BufmodeTakenSaid : Prop := bufmodeTakenRow.holds Try.pinned (OpenSpec.ofChange bufmodeTakenSpec)

/-- ITS FALSE NEIGHBOUR: 'it returns false'. Refute it at one input. -/
def bufmodeTakenWrong : ChangeSpec := { name := "bufmodeTaken", fn := fun _ => fun
  | [d1, d2, d3, d4] => { results := [.lit (.bool false)], args := [d1, d2, d3, d4] }
  | _ => none }
def BufmodeTakenWrongFalsely : Prop := bufmodeTakenRow.holds Try.pinned (OpenSpec.ofChange bufmodeTakenWrong)

/-- 'millracelaw12.BufmodeOwn': WHATEVER THE INPUT: true; the input reads as it did. -/
def bufmodeOwnSpec : ChangeSpec := { name := "bufmodeOwn", fn := fun _ => fun
  | [d1, d2, d3, d4] => { results := [.lit (.bool true)], args := [d1, d2, d3, d4] }
  | _ => none }
def bufmodeOwnRow : OpenClaim := { program := "ytibnpeipndkciaa", sum := "b873a628b51f71b6a18b80351f10c8ce6aad69f2e56e8ed78ad3430524b307f9", func := "millrace/millracelaw12.BufmodeOwn", spec := "bufmodeOwn", inPlace := ["internal/bytealg.IndexByte"], unfollowed := true, recurses := true, apart := false }
def BufmodeOwnSaid : Prop := bufmodeOwnRow.holds Try.pinned (OpenSpec.ofChange bufmodeOwnSpec)

/-- ITS FALSE NEIGHBOUR: 'it returns false'. Refute it at one input. -/
def bufmodeOwnWrong : ChangeSpec := { name := "bufmodeOwn", fn := fun _ => fun
  | [d1, d2, d3, d4] => { results := [.lit (.bool false)], args := [d1, d2, d3, d4] }
  | _ => none }
def BufmodeOwnWrongFalsely : Prop := bufmodeOwnRow.holds Try.pinned (OpenSpec.ofChange bufmodeOwnWrong)

/- THE SECOND FORM. 'bulk': how many values and letters a reading holds, each counted each time it is reached (what is shared counts as often as it is met; a slice's spare places count too). A statement '..UptoSaid' is the law's where the arguments, and the package variables that the reading takes, are together of bulk at most 1048576: NARROWER than '..Said'. Prove '..Said' where nothing that the law and all that it calls make is longer than what came in: it says more and counts as full. Else prove '..UptoSaid'. A law counts once. -/
mutual
def uptoBulk {H : Type} : DataW H → Nat
  | .lit (.string bytes) => bytes.length + 1
  | .lit _ => 1
  | .nil => 1
  | .ptr d => uptoBulk d + 1
  | .slice elems spare => uptoBulkAll elems + uptoBulkAll spare + 1
  | .agg parts => uptoBulkAll parts + 1
  | .iface _ d => uptoBulk d + 1
  | .map entries => uptoBulkEntries entries + 1
  | .held _ => 1
def uptoBulkAll {H : Type} : List (DataW H) → Nat
  | [] => 0
  | d :: r => uptoBulk d + uptoBulkAll r
def uptoBulkEntries {H : Type} : List (Lit × DataW H) → Nat
  | [] => 0
  | x :: r => uptoBulkEntry x + uptoBulkEntries r
def uptoBulkEntry {H : Type} : Lit × DataW H → Nat
  | (.string bytes, d) => bytes.length + uptoBulk d + 1
  | (_, d) => uptoBulk d + 1
 end
def uptoSmall : (H : Type) → List (DataW H) → Bool := fun _ ds => decide (uptoBulkAll ds ≤ 1048576)
def OpenSpec.upto (s : _root_.Go.ChangeSpec) : _root_.Go.OpenSpec := { _root_.Go.OpenSpec.ofChange s with cond := some uptoSmall }

/-- 'millracelaw12.BufmodeCounts', WHERE WHAT IT READS IS OF BULK AT MOST 1048576: true; the input reads as it did. -/
def bufmodeCountsUptoRow : OpenClaim := { program := "ytibnpeipndkciaa", sum := "b873a628b51f71b6a18b80351f10c8ce6aad69f2e56e8ed78ad3430524b307f9", func := "millrace/millracelaw12.BufmodeCounts", spec := "bufmodeCounts", inPlace := ["internal/bytealg.IndexByte"], unfollowed := true, recurses := true, apart := false, narrowed := true }
def BufmodeCountsUptoSaid : Prop := bufmodeCountsUptoRow.holds Try.pinned (OpenSpec.upto bufmodeCountsSpec)

/-- 'millracelaw12.BufmodeSums', WHERE WHAT IT READS IS OF BULK AT MOST 1048576: true; the input reads as it did. -/
def bufmodeSumsUptoRow : OpenClaim := { program := "ytibnpeipndkciaa", sum := "b873a628b51f71b6a18b80351f10c8ce6aad69f2e56e8ed78ad3430524b307f9", func := "millrace/millracelaw12.BufmodeSums", spec := "bufmodeSums", inPlace := ["internal/bytealg.IndexByte"], unfollowed := true, recurses := true, apart := false, narrowed := true }
def BufmodeSumsUptoSaid : Prop := bufmodeSumsUptoRow.holds Try.pinned (OpenSpec.upto bufmodeSumsSpec)

/-- 'millracelaw12.BufmodeTrue', WHERE WHAT IT READS IS OF BULK AT MOST 1048576: true; the input reads as it did. -/
def bufmodeTrueUptoRow : OpenClaim := { program := "ytibnpeipndkciaa", sum := "b873a628b51f71b6a18b80351f10c8ce6aad69f2e56e8ed78ad3430524b307f9", func := "millrace/millracelaw12.BufmodeTrue", spec := "bufmodeTrue", inPlace := ["internal/bytealg.IndexByte"], unfollowed := true, recurses := true, apart := false, narrowed := true }
def BufmodeTrueUptoSaid : Prop := bufmodeTrueUptoRow.holds Try.pinned (OpenSpec.upto bufmodeTrueSpec)

/-- 'millracelaw12.BufmodeTaken', WHERE WHAT IT READS IS OF BULK AT MOST 1048576: true; the input reads as it did. -/
def bufmodeTakenUptoRow : OpenClaim := { program := "ytibnpeipndkciaa", sum := "b873a628b51f71b6a18b80351f10c8ce6aad69f2e56e8ed78ad3430524b307f9", func := "millrace/millracelaw12.BufmodeTaken", spec := "bufmodeTaken", inPlace := ["internal/bytealg.IndexByte"], unfollowed := true, recurses := true, apart := false, narrowed := true }
def BufmodeTakenUptoSaid : Prop := bufmodeTakenUptoRow.holds Try.pinned (OpenSpec.upto bufmodeTakenSpec)

/-- 'millracelaw12.BufmodeOwn', WHERE WHAT IT READS IS OF BULK AT MOST 1048576: true; the input reads as it did. -/
def bufmodeOwnUptoRow : OpenClaim := { program := "ytibnpeipndkciaa", sum := "b873a628b51f71b6a18b80351f10c8ce6aad69f2e56e8ed78ad3430524b307f9", func := "millrace/millracelaw12.BufmodeOwn", spec := "bufmodeOwn", inPlace := ["internal/bytealg.IndexByte"], unfollowed := true, recurses := true, apart := false, narrowed := true }
def BufmodeOwnUptoSaid : Prop := bufmodeOwnUptoRow.holds Try.pinned (OpenSpec.upto bufmodeOwnSpec)

end Rows
end Go.Proofs.Ytibnpeipndkciaa

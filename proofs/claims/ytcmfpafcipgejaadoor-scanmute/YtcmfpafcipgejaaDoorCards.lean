/-
  DERIVED. GIVEN WITH THE SEED: THE CARDS: each row of YtcmfpafcipgejaaDoorRows.lean that lists a variable, with what it lists TIED to the program's text (the seventh form; the later family's looks); each row that meets fmt, with fmt's text TOLD by the authors' own Lean function (tested against real Go, not proved from fmt's source: count such statements apart). THE CARD IS WHAT COUNTS. Prove the row's statement (the work); the ties are given (YtcmfpafcipgejaaDoorTie.lean); close each card by the builder's one call (the guide's Derived/Test/ToyasCard.lean, 'card_holds'). Laid BY PROGRAM, IN A SANDBOX (cutbox-door.mjs). By AI agents, Wed Nov 11 2026. No macro, syntax, notation, axiom, sorry.
-/
import Derived.Test.YtcmfpafcipgejaaDoorRows
import GoSem.ClaimSeven
namespace Go.Proofs.YtcmfpafcipgejaaDoor
namespace Rows

/-- THE TIED CARD OF 'millracelaw18.ScanMute'. -/
def scanMuteCard : Claim7 := { stood := { row := scanMuteRow, standIns := [], harness := (true, "115db469b68edb9d8ba73124ca2eca7590236f21b7c785e9b39272887e544e69"), looks := false }, kinds := [], alts := [], laidByText := true, laidKinds := [.data, .pinned], laidTests := true, laidLooks := .later }
def ScanMuteCardSaid : Prop := Claim7.holds Tryd.pinned (.plain (OpenSpec.ofChange scanMuteSpec)) scanMuteCard

/-- THE SECOND FORM's CARD OF 'millracelaw18.ScanMute'. -/
def scanMuteUptoCard : Claim7 := { stood := { row := scanMuteUptoRow, standIns := [], harness := (true, "115db469b68edb9d8ba73124ca2eca7590236f21b7c785e9b39272887e544e69"), looks := false }, kinds := [], alts := [], laidByText := true, laidKinds := [.data, .pinned], laidTests := true, laidLooks := .later }
def ScanMuteUptoCardSaid : Prop := Claim7.holds Tryd.pinned (.plain (OpenSpec.upto scanMuteSpec)) scanMuteUptoCard
end Rows
end Go.Proofs.YtcmfpafcipgejaaDoor

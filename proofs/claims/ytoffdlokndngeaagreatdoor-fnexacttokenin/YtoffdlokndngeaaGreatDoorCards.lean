/-
  DERIVED. GIVEN WITH THE SEED: THE CARDS: each row of YtoffdlokndngeaaGreatDoorRows.lean that lists a variable, with what it lists TIED to the program's text (the seventh form; the later family's looks); each row that meets fmt, with fmt's text TOLD by the authors' own Lean function (tested against real Go, not proved from fmt's source: count such statements apart). THE CARD IS WHAT COUNTS. Prove the row's statement (the work); the ties are given (YtoffdlokndngeaaGreatDoorTie.lean); close each card by the builder's one call (the guide's Derived/Test/ToyasCard.lean, 'card_holds'). Laid BY PROGRAM, IN A SANDBOX (cutbox-door.mjs). By AI agents, Wed Nov 11 2026. No macro, syntax, notation, axiom, sorry.
-/
import Derived.Test.YtoffdlokndngeaaGreatDoorRows
import GoSem.ClaimSeven
namespace Go.Proofs.YtoffdlokndngeaaGreatDoor
namespace Rows

/-- THE TIED CARD OF 'laws.FnPicked'. -/
def fnPickedCard : Claim7 := { stood := { row := fnPickedRow, standIns := [], harness := (true, "52e51c4d8edd53e8fa560ab77f0d53dec3caedbf07cdb60b5e2ea3d93864745d"), looks := true }, kinds := [], alts := [], laidByText := true, laidKinds := [.data, .data, .data, .data, .sentinel, .sentinel, .pinned], laidTests := true, laidLooks := .later }
def FnPickedCardSaid : Prop := Claim7.holds Tryz.pinned (.plain (OpenSpec.ofChange fnPickedSpec)) fnPickedCard

/-- THE TIED CARD OF 'laws.FnExactTokenIn'. -/
def fnExactTokenInCard : Claim7 := { stood := { row := fnExactTokenInRow, standIns := [], harness := (true, "52e51c4d8edd53e8fa560ab77f0d53dec3caedbf07cdb60b5e2ea3d93864745d"), looks := true }, kinds := [], alts := [], laidByText := true, laidKinds := [.data, .data, .data, .data, .sentinel, .sentinel, .pinned], laidTests := true, laidLooks := .later }
def FnExactTokenInCardSaid : Prop := Claim7.holds Tryz.pinned (.plain (OpenSpec.ofChange fnExactTokenInSpec)) fnExactTokenInCard

/-- THE TIED CARD OF 'laws.FnExactSecretOf'. -/
def fnExactSecretOfCard : Claim7 := { stood := { row := fnExactSecretOfRow, standIns := [], harness := (true, "52e51c4d8edd53e8fa560ab77f0d53dec3caedbf07cdb60b5e2ea3d93864745d"), looks := true }, kinds := [], alts := [], laidByText := true, laidKinds := [.data, .data, .data, .data, .sentinel, .sentinel, .pinned], laidTests := true, laidLooks := .later }
def FnExactSecretOfCardSaid : Prop := Claim7.holds Tryz.pinned (.plain (OpenSpec.ofChange fnExactSecretOfSpec)) fnExactSecretOfCard

/-- THE SECOND FORM's CARD OF 'laws.FnPicked'. -/
def fnPickedUptoCard : Claim7 := { stood := { row := fnPickedUptoRow, standIns := [], harness := (true, "52e51c4d8edd53e8fa560ab77f0d53dec3caedbf07cdb60b5e2ea3d93864745d"), looks := true }, kinds := [], alts := [], laidByText := true, laidKinds := [.data, .data, .data, .data, .sentinel, .sentinel, .pinned], laidTests := true, laidLooks := .later }
def FnPickedUptoCardSaid : Prop := Claim7.holds Tryz.pinned (.plain (OpenSpec.upto fnPickedSpec)) fnPickedUptoCard

/-- THE SECOND FORM's CARD OF 'laws.FnExactTokenIn'. -/
def fnExactTokenInUptoCard : Claim7 := { stood := { row := fnExactTokenInUptoRow, standIns := [], harness := (true, "52e51c4d8edd53e8fa560ab77f0d53dec3caedbf07cdb60b5e2ea3d93864745d"), looks := true }, kinds := [], alts := [], laidByText := true, laidKinds := [.data, .data, .data, .data, .sentinel, .sentinel, .pinned], laidTests := true, laidLooks := .later }
def FnExactTokenInUptoCardSaid : Prop := Claim7.holds Tryz.pinned (.plain (OpenSpec.upto fnExactTokenInSpec)) fnExactTokenInUptoCard

/-- THE SECOND FORM's CARD OF 'laws.FnExactSecretOf'. -/
def fnExactSecretOfUptoCard : Claim7 := { stood := { row := fnExactSecretOfUptoRow, standIns := [], harness := (true, "52e51c4d8edd53e8fa560ab77f0d53dec3caedbf07cdb60b5e2ea3d93864745d"), looks := true }, kinds := [], alts := [], laidByText := true, laidKinds := [.data, .data, .data, .data, .sentinel, .sentinel, .pinned], laidTests := true, laidLooks := .later }
def FnExactSecretOfUptoCardSaid : Prop := Claim7.holds Tryz.pinned (.plain (OpenSpec.upto fnExactSecretOfSpec)) fnExactSecretOfUptoCard
end Rows
end Go.Proofs.YtoffdlokndngeaaGreatDoor

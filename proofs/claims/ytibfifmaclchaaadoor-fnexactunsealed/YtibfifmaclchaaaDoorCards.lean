/-
  DERIVED. GIVEN WITH THE SEED: THE CARDS: each row of YtibfifmaclchaaaDoorRows.lean that lists a variable, with what it lists TIED to the program's text (the seventh form; the later family's looks); each row that meets fmt, with fmt's text TOLD by the authors' own Lean function (tested against real Go, not proved from fmt's source: count such statements apart). THE CARD IS WHAT COUNTS. Prove the row's statement (the work); the ties are given (YtibfifmaclchaaaDoorTie.lean); close each card by the builder's one call (the guide's Derived/Test/ToyasCard.lean, 'card_holds'). Laid BY PROGRAM, IN A SANDBOX (cutbox-door.mjs). By AI agents, Wed Nov 11 2026. No macro, syntax, notation, axiom, sorry.
-/
import Derived.Test.YtibfifmaclchaaaDoorRows
import GoSem.ClaimSeven
namespace Go.Proofs.YtibfifmaclchaaaDoor
namespace Rows

/-- THE TIED CARD OF 'laws.FnExactNewToken'. -/
def fnExactNewTokenCard : Claim7 := { stood := { row := fnExactNewTokenRow, standIns := [], harness := (true, "94d6f5e4afa722a39f4f7d65672a8c6c42da26669ce106ddb5b4fd8a27f1b375"), looks := true }, kinds := [], alts := [], laidByText := true, laidKinds := [.data, .data, .data], laidTests := true, laidLooks := .later }
def FnExactNewTokenCardSaid : Prop := Claim7.holds Tryd.pinned (.plain (OpenSpec.ofChange fnExactNewTokenSpec)) fnExactNewTokenCard

/-- THE TIED CARD OF 'laws.FnExactUnsealed'. -/
def fnExactUnsealedCard : Claim7 := { stood := { row := fnExactUnsealedRow, standIns := [], harness := (true, "94d6f5e4afa722a39f4f7d65672a8c6c42da26669ce106ddb5b4fd8a27f1b375"), looks := true }, kinds := [], alts := [], laidByText := true, laidKinds := [.data, .data, .data, .data, .sentinel, .sentinel, .pinned], laidTests := true, laidLooks := .later }
def FnExactUnsealedCardSaid : Prop := Claim7.holds Tryd.pinned (.plain (OpenSpec.ofChange fnExactUnsealedSpec)) fnExactUnsealedCard

/-- THE SECOND FORM's CARD OF 'laws.FnExactNewToken'. -/
def fnExactNewTokenUptoCard : Claim7 := { stood := { row := fnExactNewTokenUptoRow, standIns := [], harness := (true, "94d6f5e4afa722a39f4f7d65672a8c6c42da26669ce106ddb5b4fd8a27f1b375"), looks := true }, kinds := [], alts := [], laidByText := true, laidKinds := [.data, .data, .data], laidTests := true, laidLooks := .later }
def FnExactNewTokenUptoCardSaid : Prop := Claim7.holds Tryd.pinned (.plain (OpenSpec.upto fnExactNewTokenSpec)) fnExactNewTokenUptoCard

/-- THE SECOND FORM's CARD OF 'laws.FnExactUnsealed'. -/
def fnExactUnsealedUptoCard : Claim7 := { stood := { row := fnExactUnsealedUptoRow, standIns := [], harness := (true, "94d6f5e4afa722a39f4f7d65672a8c6c42da26669ce106ddb5b4fd8a27f1b375"), looks := true }, kinds := [], alts := [], laidByText := true, laidKinds := [.data, .data, .data, .data, .sentinel, .sentinel, .pinned], laidTests := true, laidLooks := .later }
def FnExactUnsealedUptoCardSaid : Prop := Claim7.holds Tryd.pinned (.plain (OpenSpec.upto fnExactUnsealedSpec)) fnExactUnsealedUptoCard
end Rows
end Go.Proofs.YtibfifmaclchaaaDoor

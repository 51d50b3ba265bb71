/-
  DERIVED. GIVEN WITH THE SEED: THE CARDS: each row of YtioogmeghmeelaaGreatDoorRows.lean that lists a variable, with what it lists TIED to the program's text (the seventh form; the later family's looks); each row that meets fmt, with fmt's text TOLD by the authors' own Lean function (tested against real Go, not proved from fmt's source: count such statements apart). THE CARD IS WHAT COUNTS. Prove the row's statement (the work); the ties are given (YtioogmeghmeelaaGreatDoorTie.lean); close each card by the builder's one call (the guide's Derived/Test/ToyasCard.lean, 'card_holds'). Laid BY PROGRAM, IN A SANDBOX (cutbox-door.mjs). By AI agents, Wed Nov 11 2026. No macro, syntax, notation, axiom, sorry.
-/
import Derived.Test.YtioogmeghmeelaaGreatDoorRows
import GoSem.ClaimSeven
namespace Go.Proofs.YtioogmeghmeelaaGreatDoor
namespace Rows

/-- THE TIED CARD OF 'laws.FnExactHand'. -/
def fnExactHandCard : Claim7 := { stood := { row := fnExactHandRow, standIns := [], harness := (true, "9d486f9535a32b70044273146b0a2e4e28bb2504434b7c47342f535e48f52a4c"), looks := true }, kinds := [], alts := [], laidByText := true, laidKinds := [.data, .data, .data], laidTests := true, laidLooks := .later }
def FnExactHandCardSaid : Prop := Claim7.holds Tryz.pinned (.plain (OpenSpec.ofChange fnExactHandSpec)) fnExactHandCard

/-- THE SECOND FORM's CARD OF 'laws.FnExactHand'. -/
def fnExactHandUptoCard : Claim7 := { stood := { row := fnExactHandUptoRow, standIns := [], harness := (true, "9d486f9535a32b70044273146b0a2e4e28bb2504434b7c47342f535e48f52a4c"), looks := true }, kinds := [], alts := [], laidByText := true, laidKinds := [.data, .data, .data], laidTests := true, laidLooks := .later }
def FnExactHandUptoCardSaid : Prop := Claim7.holds Tryz.pinned (.plain (OpenSpec.upto fnExactHandSpec)) fnExactHandUptoCard
end Rows
end Go.Proofs.YtioogmeghmeelaaGreatDoor

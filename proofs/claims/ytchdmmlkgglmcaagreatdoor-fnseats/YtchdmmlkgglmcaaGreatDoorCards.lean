/-
  DERIVED. GIVEN WITH THE SEED: THE CARDS: each row of YtchdmmlkgglmcaaGreatDoorRows.lean that lists a variable, with what it lists TIED to the program's text (the seventh form; the later family's looks); each row that meets fmt, with fmt's text TOLD by the authors' own Lean function (tested against real Go, not proved from fmt's source: count such statements apart). THE CARD IS WHAT COUNTS. Prove the row's statement (the work); the ties are given (YtchdmmlkgglmcaaGreatDoorTie.lean); close each card by the builder's one call (the guide's Derived/Test/ToyasCard.lean, 'card_holds'). Laid BY PROGRAM, IN A SANDBOX (cutbox-door.mjs). By AI agents, Wed Nov 11 2026. No macro, syntax, notation, axiom, sorry.
-/
import Derived.Test.YtchdmmlkgglmcaaGreatDoorRows
import GoSem.ClaimSeven
namespace Go.Proofs.YtchdmmlkgglmcaaGreatDoor
namespace Rows

/-- THE TIED CARD OF 'laws.FnSeats'. -/
def fnSeatsCard : Claim7 := { stood := { row := fnSeatsRow, standIns := [], harness := (true, "bbc2b9a35a25c769fc5e43559e55d5a0e47e0f69cf7065517a08f8391c22944b"), looks := true }, kinds := [], alts := [], laidByText := true, laidKinds := [.data, .data, .data], laidTests := true, laidLooks := .later }
def FnSeatsCardSaid : Prop := Claim7.holds Tryz.pinned (.plain (OpenSpec.ofChange fnSeatsSpec)) fnSeatsCard

/-- THE SECOND FORM's CARD OF 'laws.FnSeats'. -/
def fnSeatsUptoCard : Claim7 := { stood := { row := fnSeatsUptoRow, standIns := [], harness := (true, "bbc2b9a35a25c769fc5e43559e55d5a0e47e0f69cf7065517a08f8391c22944b"), looks := true }, kinds := [], alts := [], laidByText := true, laidKinds := [.data, .data, .data], laidTests := true, laidLooks := .later }
def FnSeatsUptoCardSaid : Prop := Claim7.holds Tryz.pinned (.plain (OpenSpec.upto fnSeatsSpec)) fnSeatsUptoCard
end Rows
end Go.Proofs.YtchdmmlkgglmcaaGreatDoor

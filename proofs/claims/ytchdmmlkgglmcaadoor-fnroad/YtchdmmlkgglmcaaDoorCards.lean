/-
  DERIVED. GIVEN WITH THE SEED: THE CARDS: each row of YtchdmmlkgglmcaaDoorRows.lean that lists a variable, with what it lists TIED to the program's text (the seventh form; the later family's looks); each row that meets fmt, with fmt's text TOLD by the authors' own Lean function (tested against real Go, not proved from fmt's source: count such statements apart). THE CARD IS WHAT COUNTS. Prove the row's statement (the work); the ties are given (YtchdmmlkgglmcaaDoorTie.lean); close each card by the builder's one call (the guide's Derived/Test/ToyasCard.lean, 'card_holds'). Laid BY PROGRAM, IN A SANDBOX (cutbox-door.mjs). By AI agents, Wed Nov 11 2026. No macro, syntax, notation, axiom, sorry.
-/
import Derived.Test.YtchdmmlkgglmcaaDoorRows
import GoSem.ClaimSeven
namespace Go.Proofs.YtchdmmlkgglmcaaDoor
namespace Rows

/-- THE TIED CARD OF 'laws.FnRoad'. -/
def fnRoadCard : Claim7 := { stood := { row := fnRoadRow, standIns := [], harness := (true, "f3175e0c9e5df59f3c7dd16d222266da1253874f8f7dc1a71898b43bb2476103"), looks := true }, kinds := [], alts := [], laidByText := true, laidKinds := [.data, .data, .data], laidTests := true, laidLooks := .later }
def FnRoadCardSaid : Prop := Claim7.holds Tryd.pinned (.plain (OpenSpec.ofChange fnRoadSpec)) fnRoadCard

/-- THE TIED CARD OF 'laws.FnExactHears'. -/
def fnExactHearsCard : Claim7 := { stood := { row := fnExactHearsRow, standIns := [], harness := (true, "f3175e0c9e5df59f3c7dd16d222266da1253874f8f7dc1a71898b43bb2476103"), looks := true }, kinds := [], alts := [], laidByText := true, laidKinds := [.data, .data, .data], laidTests := true, laidLooks := .later }
def FnExactHearsCardSaid : Prop := Claim7.holds Tryd.pinned (.plain (OpenSpec.ofChange fnExactHearsSpec)) fnExactHearsCard

/-- THE SECOND FORM's CARD OF 'laws.FnRoad'. -/
def fnRoadUptoCard : Claim7 := { stood := { row := fnRoadUptoRow, standIns := [], harness := (true, "f3175e0c9e5df59f3c7dd16d222266da1253874f8f7dc1a71898b43bb2476103"), looks := true }, kinds := [], alts := [], laidByText := true, laidKinds := [.data, .data, .data], laidTests := true, laidLooks := .later }
def FnRoadUptoCardSaid : Prop := Claim7.holds Tryd.pinned (.plain (OpenSpec.upto fnRoadSpec)) fnRoadUptoCard

/-- THE SECOND FORM's CARD OF 'laws.FnExactHears'. -/
def fnExactHearsUptoCard : Claim7 := { stood := { row := fnExactHearsUptoRow, standIns := [], harness := (true, "f3175e0c9e5df59f3c7dd16d222266da1253874f8f7dc1a71898b43bb2476103"), looks := true }, kinds := [], alts := [], laidByText := true, laidKinds := [.data, .data, .data], laidTests := true, laidLooks := .later }
def FnExactHearsUptoCardSaid : Prop := Claim7.holds Tryd.pinned (.plain (OpenSpec.upto fnExactHearsSpec)) fnExactHearsUptoCard
end Rows
end Go.Proofs.YtchdmmlkgglmcaaDoor

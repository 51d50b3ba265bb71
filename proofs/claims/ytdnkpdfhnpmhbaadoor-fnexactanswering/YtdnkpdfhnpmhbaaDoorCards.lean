/-
  DERIVED. GIVEN WITH THE SEED: THE CARDS: each row of YtdnkpdfhnpmhbaaDoorRows.lean that lists a variable, with what it lists TIED to the program's text (the seventh form; the later family's looks); each row that meets fmt, with fmt's text TOLD by the authors' own Lean function (tested against real Go, not proved from fmt's source: count such statements apart). THE CARD IS WHAT COUNTS. Prove the row's statement (the work); the ties are given (YtdnkpdfhnpmhbaaDoorTie.lean); close each card by the builder's one call (the guide's Derived/Test/ToyasCard.lean, 'card_holds'). Laid BY PROGRAM, IN A SANDBOX (cutbox-door.mjs). By AI agents, Wed Nov 11 2026. No macro, syntax, notation, axiom, sorry.
-/
import Derived.Test.YtdnkpdfhnpmhbaaDoorRows
import GoSem.ClaimSeven
namespace Go.Proofs.YtdnkpdfhnpmhbaaDoor
namespace Rows

/-- THE TIED CARD OF 'laws.FnAnswers'. -/
def fnAnswersCard : Claim7 := { stood := { row := fnAnswersRow, standIns := [], harness := (true, "fc7adb98b4c2ea90d7757b35c22240ae02f86d22c091ab419f643e489ad1fd7b"), looks := true }, kinds := [], alts := [], laidByText := true, laidKinds := [.data, .data, .data], laidTests := true, laidLooks := .later }
def FnAnswersCardSaid : Prop := Claim7.holds Tryd.pinned (.plain (OpenSpec.ofChange fnAnswersSpec)) fnAnswersCard

/-- THE TIED CARD OF 'laws.FnExactAnswering'. -/
def fnExactAnsweringCard : Claim7 := { stood := { row := fnExactAnsweringRow, standIns := [], harness := (true, "fc7adb98b4c2ea90d7757b35c22240ae02f86d22c091ab419f643e489ad1fd7b"), looks := true }, kinds := [], alts := [], laidByText := true, laidKinds := [.data, .data, .data], laidTests := true, laidLooks := .later }
def FnExactAnsweringCardSaid : Prop := Claim7.holds Tryd.pinned (.plain (OpenSpec.ofChange fnExactAnsweringSpec)) fnExactAnsweringCard

/-- THE TIED CARD OF 'laws.FnExactProves'. -/
def fnExactProvesCard : Claim7 := { stood := { row := fnExactProvesRow, standIns := [], harness := (true, "fc7adb98b4c2ea90d7757b35c22240ae02f86d22c091ab419f643e489ad1fd7b"), looks := true }, kinds := [], alts := [], laidByText := true, laidKinds := [.data, .data, .data], laidTests := true, laidLooks := .later }
def FnExactProvesCardSaid : Prop := Claim7.holds Tryd.pinned (.plain (OpenSpec.ofChange fnExactProvesSpec)) fnExactProvesCard

/-- THE SECOND FORM's CARD OF 'laws.FnAnswers'. -/
def fnAnswersUptoCard : Claim7 := { stood := { row := fnAnswersUptoRow, standIns := [], harness := (true, "fc7adb98b4c2ea90d7757b35c22240ae02f86d22c091ab419f643e489ad1fd7b"), looks := true }, kinds := [], alts := [], laidByText := true, laidKinds := [.data, .data, .data], laidTests := true, laidLooks := .later }
def FnAnswersUptoCardSaid : Prop := Claim7.holds Tryd.pinned (.plain (OpenSpec.upto fnAnswersSpec)) fnAnswersUptoCard

/-- THE SECOND FORM's CARD OF 'laws.FnExactAnswering'. -/
def fnExactAnsweringUptoCard : Claim7 := { stood := { row := fnExactAnsweringUptoRow, standIns := [], harness := (true, "fc7adb98b4c2ea90d7757b35c22240ae02f86d22c091ab419f643e489ad1fd7b"), looks := true }, kinds := [], alts := [], laidByText := true, laidKinds := [.data, .data, .data], laidTests := true, laidLooks := .later }
def FnExactAnsweringUptoCardSaid : Prop := Claim7.holds Tryd.pinned (.plain (OpenSpec.upto fnExactAnsweringSpec)) fnExactAnsweringUptoCard

/-- THE SECOND FORM's CARD OF 'laws.FnExactProves'. -/
def fnExactProvesUptoCard : Claim7 := { stood := { row := fnExactProvesUptoRow, standIns := [], harness := (true, "fc7adb98b4c2ea90d7757b35c22240ae02f86d22c091ab419f643e489ad1fd7b"), looks := true }, kinds := [], alts := [], laidByText := true, laidKinds := [.data, .data, .data], laidTests := true, laidLooks := .later }
def FnExactProvesUptoCardSaid : Prop := Claim7.holds Tryd.pinned (.plain (OpenSpec.upto fnExactProvesSpec)) fnExactProvesUptoCard
end Rows
end Go.Proofs.YtdnkpdfhnpmhbaaDoor

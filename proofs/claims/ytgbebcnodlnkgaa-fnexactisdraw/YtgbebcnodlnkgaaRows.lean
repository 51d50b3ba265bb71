/-
  No cell of these rows narrows 'for every input' (looked for: loops, veiled, ifaces, maps, wideKeys, modest, calm, conditions, laid).
  DERIVED. THE GIVEN ROWS OF THIS SEAT. 4 by the template 'for every input the law returns true; each argument reads behind the call as it read before'; 0 by the template 'total and deterministic' (their statements: YtgbebcnodlnkgaaTotals.lean).
  GIVEN WITH THE SEED: the statements are not yours to turn. If you find one false, say at which input.
  Laid BY PROGRAM, IN A SANDBOX (cutbox-rows.mjs): the forced cells as the released guide's own fill.sh prints them over the translation bf79ef2fea069868… (all of the seat's roots in one cut). By AI agents, Wed Nov 11 2026. No macro, syntax, notation, axiom, sorry.
-/
import Derived.Test.YtgbebcnodlnkgaaChecked
import GoSem.Claim
import GoSem.ClaimJoined
import GoSem.ClaimMapViews
import Derived.JoinedTies
import Derived.KernelRfl
namespace Go.Proofs.Ytgbebcnodlnkgaa
/- THE CELL 'sum', in the pinned program and in every row, IS THE sha256 OF THE DUMP (.gsa) THAT YtgbebcnodlnkgaaProg.lean LOADS. Nothing in Lean hashes anything: it is a label: what it is worth is what the hold of that sum in a sandbox is worth. -/
noncomputable def Try.pinned : Pinned := { name := "ytgbebcnodlnkgaa", sum := "bf79ef2fea0698680de2a079aeac5d45e025d1dbf77aca59cceb2dc2bc753a9d", checked := Try.checked }
namespace Rows
def none {H : Type} : Left H := { results := [], args := [] }

/-- 'laws.FnDraws': WHATEVER THE INPUT: true; the input reads as it did. -/
def fnDrawsSpec : ChangeSpec := { name := "fnDraws", fn := fun _ => fun
  | [d] => { results := [.lit (.bool true)], args := [d] }
  | _ => none }
def fnDrawsRow : OpenClaim := { program := "ytgbebcnodlnkgaa", sum := "bf79ef2fea0698680de2a079aeac5d45e025d1dbf77aca59cceb2dc2bc753a9d", func := "loop.example/g00558/laws.FnDraws", spec := "fnDraws", unfollowed := true, recurses := true, apart := false }
def FnDrawsSaid : Prop := fnDrawsRow.holds Try.pinned (OpenSpec.ofChange fnDrawsSpec)

/-- ITS FALSE NEIGHBOUR: 'it returns false'. Refute it at one input. -/
def fnDrawsWrong : ChangeSpec := { name := "fnDraws", fn := fun _ => fun
  | [d] => { results := [.lit (.bool false)], args := [d] }
  | _ => none }
def FnDrawsWrongFalsely : Prop := fnDrawsRow.holds Try.pinned (OpenSpec.ofChange fnDrawsWrong)

/-- 'laws.FnExactIsDraw': WHATEVER THE INPUT: true; the input reads as it did. -/
def fnExactIsDrawSpec : ChangeSpec := { name := "fnExactIsDraw", fn := fun _ => fun
  | [d] => { results := [.lit (.bool true)], args := [d] }
  | _ => none }
def fnExactIsDrawRow : OpenClaim := { program := "ytgbebcnodlnkgaa", sum := "bf79ef2fea0698680de2a079aeac5d45e025d1dbf77aca59cceb2dc2bc753a9d", func := "loop.example/g00558/laws.FnExactIsDraw", spec := "fnExactIsDraw", apart := false }
def FnExactIsDrawSaid : Prop := fnExactIsDrawRow.holds Try.pinned (OpenSpec.ofChange fnExactIsDrawSpec)

/-- ITS FALSE NEIGHBOUR: 'it returns false'. Refute it at one input. -/
def fnExactIsDrawWrong : ChangeSpec := { name := "fnExactIsDraw", fn := fun _ => fun
  | [d] => { results := [.lit (.bool false)], args := [d] }
  | _ => none }
def FnExactIsDrawWrongFalsely : Prop := fnExactIsDrawRow.holds Try.pinned (OpenSpec.ofChange fnExactIsDrawWrong)

/-- 'laws.FnExactNextDraw': WHATEVER THE INPUT: true; the input reads as it did. -/
def fnExactNextDrawSpec : ChangeSpec := { name := "fnExactNextDraw", fn := fun _ => fun
  | [d] => { results := [.lit (.bool true)], args := [d] }
  | _ => none }
def fnExactNextDrawRow : OpenClaim := { program := "ytgbebcnodlnkgaa", sum := "bf79ef2fea0698680de2a079aeac5d45e025d1dbf77aca59cceb2dc2bc753a9d", func := "loop.example/g00558/laws.FnExactNextDraw", spec := "fnExactNextDraw", apart := false }
def FnExactNextDrawSaid : Prop := fnExactNextDrawRow.holds Try.pinned (OpenSpec.ofChange fnExactNextDrawSpec)

/-- ITS FALSE NEIGHBOUR: 'it returns false'. Refute it at one input. -/
def fnExactNextDrawWrong : ChangeSpec := { name := "fnExactNextDraw", fn := fun _ => fun
  | [d] => { results := [.lit (.bool false)], args := [d] }
  | _ => none }
def FnExactNextDrawWrongFalsely : Prop := fnExactNextDrawRow.holds Try.pinned (OpenSpec.ofChange fnExactNextDrawWrong)

/-- 'laws.FnExactAllUnlike': WHATEVER THE INPUT: true; the input reads as it did. -/
def fnExactAllUnlikeSpec : ChangeSpec := { name := "fnExactAllUnlike", fn := fun _ => fun
  | [d] => { results := [.lit (.bool true)], args := [d] }
  | _ => none }
def fnExactAllUnlikeRow : OpenClaim := { program := "ytgbebcnodlnkgaa", sum := "bf79ef2fea0698680de2a079aeac5d45e025d1dbf77aca59cceb2dc2bc753a9d", func := "loop.example/g00558/laws.FnExactAllUnlike", spec := "fnExactAllUnlike", unfollowed := true, recurses := true, apart := false }
def FnExactAllUnlikeSaid : Prop := fnExactAllUnlikeRow.holds Try.pinned (OpenSpec.ofChange fnExactAllUnlikeSpec)

/-- ITS FALSE NEIGHBOUR: 'it returns false'. Refute it at one input. -/
def fnExactAllUnlikeWrong : ChangeSpec := { name := "fnExactAllUnlike", fn := fun _ => fun
  | [d] => { results := [.lit (.bool false)], args := [d] }
  | _ => none }
def FnExactAllUnlikeWrongFalsely : Prop := fnExactAllUnlikeRow.holds Try.pinned (OpenSpec.ofChange fnExactAllUnlikeWrong)

/- THE SECOND FORM. 'bulk': how many values and letters a reading holds, each counted each time it is reached (what is shared counts as often as it is met; a slice's spare places count too). A statement '..UptoSaid' is the law's where the arguments, and the package variables that the reading takes, are together of bulk at most 1048576: NARROWER than '..Said'. Prove '..Said' where nothing that the law and all that it calls make is longer than what came in: it says more and counts as full. Else prove '..UptoSaid'. A law counts once. -/
mutual
def uptoBulk {H : Type} : DataW H → Nat
  | .lit (.string bytes) => bytes.length + 1
  | .lit _ => 1
  | .nil => 1
  | .ptr d => uptoBulk d + 1
  | .slice elems spare => uptoBulkAll elems + uptoBulkAll spare + 1
  | .agg parts => uptoBulkAll parts + 1
  | .iface _ d => uptoBulk d + 1
  | .map entries => uptoBulkEntries entries + 1
  | .held _ => 1
def uptoBulkAll {H : Type} : List (DataW H) → Nat
  | [] => 0
  | d :: r => uptoBulk d + uptoBulkAll r
def uptoBulkEntries {H : Type} : List (Lit × DataW H) → Nat
  | [] => 0
  | x :: r => uptoBulkEntry x + uptoBulkEntries r
def uptoBulkEntry {H : Type} : Lit × DataW H → Nat
  | (.string bytes, d) => bytes.length + uptoBulk d + 1
  | (_, d) => uptoBulk d + 1
 end
def uptoSmall : (H : Type) → List (DataW H) → Bool := fun _ ds => decide (uptoBulkAll ds ≤ 1048576)
def OpenSpec.upto (s : _root_.Go.ChangeSpec) : _root_.Go.OpenSpec := { _root_.Go.OpenSpec.ofChange s with cond := some uptoSmall }

/-- 'laws.FnDraws', WHERE WHAT IT READS IS OF BULK AT MOST 1048576: true; the input reads as it did. -/
def fnDrawsUptoRow : OpenClaim := { program := "ytgbebcnodlnkgaa", sum := "bf79ef2fea0698680de2a079aeac5d45e025d1dbf77aca59cceb2dc2bc753a9d", func := "loop.example/g00558/laws.FnDraws", spec := "fnDraws", unfollowed := true, recurses := true, apart := false, narrowed := true }
def FnDrawsUptoSaid : Prop := fnDrawsUptoRow.holds Try.pinned (OpenSpec.upto fnDrawsSpec)

/-- 'laws.FnExactIsDraw', WHERE WHAT IT READS IS OF BULK AT MOST 1048576: true; the input reads as it did. -/
def fnExactIsDrawUptoRow : OpenClaim := { program := "ytgbebcnodlnkgaa", sum := "bf79ef2fea0698680de2a079aeac5d45e025d1dbf77aca59cceb2dc2bc753a9d", func := "loop.example/g00558/laws.FnExactIsDraw", spec := "fnExactIsDraw", apart := false, narrowed := true }
def FnExactIsDrawUptoSaid : Prop := fnExactIsDrawUptoRow.holds Try.pinned (OpenSpec.upto fnExactIsDrawSpec)

/-- 'laws.FnExactNextDraw', WHERE WHAT IT READS IS OF BULK AT MOST 1048576: true; the input reads as it did. -/
def fnExactNextDrawUptoRow : OpenClaim := { program := "ytgbebcnodlnkgaa", sum := "bf79ef2fea0698680de2a079aeac5d45e025d1dbf77aca59cceb2dc2bc753a9d", func := "loop.example/g00558/laws.FnExactNextDraw", spec := "fnExactNextDraw", apart := false, narrowed := true }
def FnExactNextDrawUptoSaid : Prop := fnExactNextDrawUptoRow.holds Try.pinned (OpenSpec.upto fnExactNextDrawSpec)

/-- 'laws.FnExactAllUnlike', WHERE WHAT IT READS IS OF BULK AT MOST 1048576: true; the input reads as it did. -/
def fnExactAllUnlikeUptoRow : OpenClaim := { program := "ytgbebcnodlnkgaa", sum := "bf79ef2fea0698680de2a079aeac5d45e025d1dbf77aca59cceb2dc2bc753a9d", func := "loop.example/g00558/laws.FnExactAllUnlike", spec := "fnExactAllUnlike", unfollowed := true, recurses := true, apart := false, narrowed := true }
def FnExactAllUnlikeUptoSaid : Prop := fnExactAllUnlikeUptoRow.holds Try.pinned (OpenSpec.upto fnExactAllUnlikeSpec)

end Rows
end Go.Proofs.Ytgbebcnodlnkgaa

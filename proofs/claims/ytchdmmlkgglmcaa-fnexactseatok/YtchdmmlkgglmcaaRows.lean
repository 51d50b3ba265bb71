/-
  No cell of these rows narrows 'for every input' (looked for: loops, veiled, ifaces, maps, wideKeys, modest, calm, conditions, laid).
  DERIVED. THE GIVEN ROWS OF THIS SEAT. 4 by the template 'for every input the law returns true; each argument reads behind the call as it read before'; 0 by the template 'total and deterministic' (their statements: YtchdmmlkgglmcaaTotals.lean).
  GIVEN WITH THE SEED: the statements are not yours to turn. If you find one false, say at which input.
  Laid BY PROGRAM, IN A SANDBOX (cutbox-rows.mjs): the forced cells as the released guide's own fill.sh prints them over the translation 5071cd86639ab1cb… (all of the seat's roots in one cut). By AI agents, Wed Nov 11 2026. No macro, syntax, notation, axiom, sorry.
-/
import Derived.Test.YtchdmmlkgglmcaaChecked
import GoSem.Claim
import GoSem.ClaimJoined
import GoSem.ClaimMapViews
import Derived.JoinedTies
import Derived.KernelRfl
namespace Go.Proofs.Ytchdmmlkgglmcaa
/- THE CELL 'sum', in the pinned program and in every row, IS THE sha256 OF THE DUMP (.gsa) THAT YtchdmmlkgglmcaaProg.lean LOADS. Nothing in Lean hashes anything: it is a label: what it is worth is what the hold of that sum in a sandbox is worth. -/
noncomputable def Try.pinned : Pinned := { name := "ytchdmmlkgglmcaa", sum := "5071cd86639ab1cb88274912838ec10a5c121dae8fd51e4e89d17651a588a249", checked := Try.checked }
namespace Rows
def none {H : Type} : Left H := { results := [], args := [] }

/-- 'laws.FnExactSeatOk': WHATEVER THE INPUT: true; the input reads as it did. -/
def fnExactSeatOkSpec : ChangeSpec := { name := "fnExactSeatOk", fn := fun _ => fun
  | [d] => { results := [.lit (.bool true)], args := [d] }
  | _ => none }
def fnExactSeatOkRow : OpenClaim := { program := "ytchdmmlkgglmcaa", sum := "5071cd86639ab1cb88274912838ec10a5c121dae8fd51e4e89d17651a588a249", func := "loop.example/g00558/laws.FnExactSeatOk", spec := "fnExactSeatOk", apart := false }
def FnExactSeatOkSaid : Prop := fnExactSeatOkRow.holds Try.pinned (OpenSpec.ofChange fnExactSeatOkSpec)

/-- ITS FALSE NEIGHBOUR: 'it returns false'. Refute it at one input. -/
def fnExactSeatOkWrong : ChangeSpec := { name := "fnExactSeatOk", fn := fun _ => fun
  | [d] => { results := [.lit (.bool false)], args := [d] }
  | _ => none }
def FnExactSeatOkWrongFalsely : Prop := fnExactSeatOkRow.holds Try.pinned (OpenSpec.ofChange fnExactSeatOkWrong)

/-- 'laws.FnExactNewSeat': WHATEVER THE INPUT: true; the input reads as it did. -/
def fnExactNewSeatSpec : ChangeSpec := { name := "fnExactNewSeat", fn := fun _ => fun
  | [d1, d2, d3, d4] => { results := [.lit (.bool true)], args := [d1, d2, d3, d4] }
  | _ => none }
def fnExactNewSeatRow : OpenClaim := { program := "ytchdmmlkgglmcaa", sum := "5071cd86639ab1cb88274912838ec10a5c121dae8fd51e4e89d17651a588a249", func := "loop.example/g00558/laws.FnExactNewSeat", spec := "fnExactNewSeat", apart := false }
def FnExactNewSeatSaid : Prop := fnExactNewSeatRow.holds Try.pinned (OpenSpec.ofChange fnExactNewSeatSpec)

/-- ITS FALSE NEIGHBOUR: 'it returns false'. Refute it at one input. -/
def fnExactNewSeatWrong : ChangeSpec := { name := "fnExactNewSeat", fn := fun _ => fun
  | [d1, d2, d3, d4] => { results := [.lit (.bool false)], args := [d1, d2, d3, d4] }
  | _ => none }
def FnExactNewSeatWrongFalsely : Prop := fnExactNewSeatRow.holds Try.pinned (OpenSpec.ofChange fnExactNewSeatWrong)

/-- 'laws.FnExactLogOf': WHATEVER THE INPUT: true; the input reads as it did. -/
def fnExactLogOfSpec : ChangeSpec := { name := "fnExactLogOf", fn := fun _ => fun
  | [d] => { results := [.lit (.bool true)], args := [d] }
  | _ => none }
def fnExactLogOfRow : OpenClaim := { program := "ytchdmmlkgglmcaa", sum := "5071cd86639ab1cb88274912838ec10a5c121dae8fd51e4e89d17651a588a249", func := "loop.example/g00558/laws.FnExactLogOf", spec := "fnExactLogOf", apart := false }
def FnExactLogOfSaid : Prop := fnExactLogOfRow.holds Try.pinned (OpenSpec.ofChange fnExactLogOfSpec)

/-- ITS FALSE NEIGHBOUR: 'it returns false'. Refute it at one input. -/
def fnExactLogOfWrong : ChangeSpec := { name := "fnExactLogOf", fn := fun _ => fun
  | [d] => { results := [.lit (.bool false)], args := [d] }
  | _ => none }
def FnExactLogOfWrongFalsely : Prop := fnExactLogOfRow.holds Try.pinned (OpenSpec.ofChange fnExactLogOfWrong)

/-- 'laws.FnExactEarlyIn': WHATEVER THE INPUT: true; the input reads as it did. -/
def fnExactEarlyInSpec : ChangeSpec := { name := "fnExactEarlyIn", fn := fun _ => fun
  | [d] => { results := [.lit (.bool true)], args := [d] }
  | _ => none }
def fnExactEarlyInRow : OpenClaim := { program := "ytchdmmlkgglmcaa", sum := "5071cd86639ab1cb88274912838ec10a5c121dae8fd51e4e89d17651a588a249", func := "loop.example/g00558/laws.FnExactEarlyIn", spec := "fnExactEarlyIn", unfollowed := true, recurses := true, apart := false }
def FnExactEarlyInSaid : Prop := fnExactEarlyInRow.holds Try.pinned (OpenSpec.ofChange fnExactEarlyInSpec)

/-- ITS FALSE NEIGHBOUR: 'it returns false'. Refute it at one input. -/
def fnExactEarlyInWrong : ChangeSpec := { name := "fnExactEarlyIn", fn := fun _ => fun
  | [d] => { results := [.lit (.bool false)], args := [d] }
  | _ => none }
def FnExactEarlyInWrongFalsely : Prop := fnExactEarlyInRow.holds Try.pinned (OpenSpec.ofChange fnExactEarlyInWrong)

/- THE SECOND FORM. 'bulk': how many values and letters a reading holds, each counted each time it is reached (what is shared counts as often as it is met; a slice's spare places count too). A statement '..UptoSaid' is the law's where the arguments, and the package variables that the reading takes, are together of bulk at most 1048576: NARROWER than '..Said'. Prove '..Said' where nothing that the law and all that it calls make is longer than what came in: it says more and counts as full. Else prove '..UptoSaid'. A law counts once. -/
mutual
def uptoBulk {H : Type} : DataW H → Nat
  | .lit (.string bytes) => bytes.length + 1
  | .lit _ => 1
  | .nil => 1
  | .ptr d => uptoBulk d + 1
  | .slice elems spare => uptoBulkAll elems + uptoBulkAll spare + 1
  | .agg parts => uptoBulkAll parts + 1
  | .iface _ d => uptoBulk d + 1
  | .map entries => uptoBulkEntries entries + 1
  | .held _ => 1
def uptoBulkAll {H : Type} : List (DataW H) → Nat
  | [] => 0
  | d :: r => uptoBulk d + uptoBulkAll r
def uptoBulkEntries {H : Type} : List (Lit × DataW H) → Nat
  | [] => 0
  | x :: r => uptoBulkEntry x + uptoBulkEntries r
def uptoBulkEntry {H : Type} : Lit × DataW H → Nat
  | (.string bytes, d) => bytes.length + uptoBulk d + 1
  | (_, d) => uptoBulk d + 1
 end
def uptoSmall : (H : Type) → List (DataW H) → Bool := fun _ ds => decide (uptoBulkAll ds ≤ 1048576)
def OpenSpec.upto (s : _root_.Go.ChangeSpec) : _root_.Go.OpenSpec := { _root_.Go.OpenSpec.ofChange s with cond := some uptoSmall }

/-- 'laws.FnExactSeatOk', WHERE WHAT IT READS IS OF BULK AT MOST 1048576: true; the input reads as it did. -/
def fnExactSeatOkUptoRow : OpenClaim := { program := "ytchdmmlkgglmcaa", sum := "5071cd86639ab1cb88274912838ec10a5c121dae8fd51e4e89d17651a588a249", func := "loop.example/g00558/laws.FnExactSeatOk", spec := "fnExactSeatOk", apart := false, narrowed := true }
def FnExactSeatOkUptoSaid : Prop := fnExactSeatOkUptoRow.holds Try.pinned (OpenSpec.upto fnExactSeatOkSpec)

/-- 'laws.FnExactNewSeat', WHERE WHAT IT READS IS OF BULK AT MOST 1048576: true; the input reads as it did. -/
def fnExactNewSeatUptoRow : OpenClaim := { program := "ytchdmmlkgglmcaa", sum := "5071cd86639ab1cb88274912838ec10a5c121dae8fd51e4e89d17651a588a249", func := "loop.example/g00558/laws.FnExactNewSeat", spec := "fnExactNewSeat", apart := false, narrowed := true }
def FnExactNewSeatUptoSaid : Prop := fnExactNewSeatUptoRow.holds Try.pinned (OpenSpec.upto fnExactNewSeatSpec)

/-- 'laws.FnExactLogOf', WHERE WHAT IT READS IS OF BULK AT MOST 1048576: true; the input reads as it did. -/
def fnExactLogOfUptoRow : OpenClaim := { program := "ytchdmmlkgglmcaa", sum := "5071cd86639ab1cb88274912838ec10a5c121dae8fd51e4e89d17651a588a249", func := "loop.example/g00558/laws.FnExactLogOf", spec := "fnExactLogOf", apart := false, narrowed := true }
def FnExactLogOfUptoSaid : Prop := fnExactLogOfUptoRow.holds Try.pinned (OpenSpec.upto fnExactLogOfSpec)

/-- 'laws.FnExactEarlyIn', WHERE WHAT IT READS IS OF BULK AT MOST 1048576: true; the input reads as it did. -/
def fnExactEarlyInUptoRow : OpenClaim := { program := "ytchdmmlkgglmcaa", sum := "5071cd86639ab1cb88274912838ec10a5c121dae8fd51e4e89d17651a588a249", func := "loop.example/g00558/laws.FnExactEarlyIn", spec := "fnExactEarlyIn", unfollowed := true, recurses := true, apart := false, narrowed := true }
def FnExactEarlyInUptoSaid : Prop := fnExactEarlyInUptoRow.holds Try.pinned (OpenSpec.upto fnExactEarlyInSpec)

end Rows
end Go.Proofs.Ytchdmmlkgglmcaa

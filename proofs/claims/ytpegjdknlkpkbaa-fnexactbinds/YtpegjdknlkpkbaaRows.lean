/-
  No cell of these rows narrows 'for every input' (looked for: loops, veiled, ifaces, maps, wideKeys, modest, calm, conditions, laid).
  DERIVED. THE GIVEN ROWS OF THIS SEAT. 3 by the template 'for every input the law returns true; each argument reads behind the call as it read before'; 0 by the template 'total and deterministic' (their statements: YtpegjdknlkpkbaaTotals.lean).
  GIVEN WITH THE SEED: the statements are not yours to turn. If you find one false, say at which input.
  Laid BY PROGRAM, IN A SANDBOX (cutbox-rows.mjs): the forced cells as the released guide's own fill.sh prints them over the translation 2c84209320d7bad0… (all of the seat's roots in one cut). By AI agents, Wed Nov 11 2026. No macro, syntax, notation, axiom, sorry.
-/
import Derived.Test.YtpegjdknlkpkbaaChecked
import GoSem.Claim
import GoSem.ClaimJoined
import GoSem.ClaimMapViews
import Derived.JoinedTies
import Derived.KernelRfl
namespace Go.Proofs.Ytpegjdknlkpkbaa
/- THE CELL 'sum', in the pinned program and in every row, IS THE sha256 OF THE DUMP (.gsa) THAT YtpegjdknlkpkbaaProg.lean LOADS. Nothing in Lean hashes anything: it is a label: what it is worth is what the hold of that sum in a sandbox is worth. -/
noncomputable def Try.pinned : Pinned := { name := "ytpegjdknlkpkbaa", sum := "2c84209320d7bad003a0b6d2d37af8e159c1afdc3f8e5eddb0b48f3eab3b7f2a", checked := Try.checked }
namespace Rows
def none {H : Type} : Left H := { results := [], args := [] }

/-- 'laws.FnExactHelloOk': WHATEVER THE INPUT: true; the input reads as it did. -/
def fnExactHelloOkSpec : ChangeSpec := { name := "fnExactHelloOk", fn := fun _ => fun
  | [d] => { results := [.lit (.bool true)], args := [d] }
  | _ => none }
def fnExactHelloOkRow : OpenClaim := { program := "ytpegjdknlkpkbaa", sum := "2c84209320d7bad003a0b6d2d37af8e159c1afdc3f8e5eddb0b48f3eab3b7f2a", func := "loop.example/g00558/laws.FnExactHelloOk", spec := "fnExactHelloOk", apart := false }
def FnExactHelloOkSaid : Prop := fnExactHelloOkRow.holds Try.pinned (OpenSpec.ofChange fnExactHelloOkSpec)

/-- ITS FALSE NEIGHBOUR: 'it returns false'. Refute it at one input. -/
def fnExactHelloOkWrong : ChangeSpec := { name := "fnExactHelloOk", fn := fun _ => fun
  | [d] => { results := [.lit (.bool false)], args := [d] }
  | _ => none }
def FnExactHelloOkWrongFalsely : Prop := fnExactHelloOkRow.holds Try.pinned (OpenSpec.ofChange fnExactHelloOkWrong)

/-- 'laws.FnExactGreeting': WHATEVER THE INPUT: true; the input reads as it did. -/
def fnExactGreetingSpec : ChangeSpec := { name := "fnExactGreeting", fn := fun _ => fun
  | [d1, d2] => { results := [.lit (.bool true)], args := [d1, d2] }
  | _ => none }
def fnExactGreetingRow : OpenClaim := { program := "ytpegjdknlkpkbaa", sum := "2c84209320d7bad003a0b6d2d37af8e159c1afdc3f8e5eddb0b48f3eab3b7f2a", func := "loop.example/g00558/laws.FnExactGreeting", spec := "fnExactGreeting", apart := false }
def FnExactGreetingSaid : Prop := fnExactGreetingRow.holds Try.pinned (OpenSpec.ofChange fnExactGreetingSpec)

/-- ITS FALSE NEIGHBOUR: 'it returns false'. Refute it at one input. -/
def fnExactGreetingWrong : ChangeSpec := { name := "fnExactGreeting", fn := fun _ => fun
  | [d1, d2] => { results := [.lit (.bool false)], args := [d1, d2] }
  | _ => none }
def FnExactGreetingWrongFalsely : Prop := fnExactGreetingRow.holds Try.pinned (OpenSpec.ofChange fnExactGreetingWrong)

/-- 'laws.FnExactBinds': WHATEVER THE INPUT: true; the input reads as it did. -/
def fnExactBindsSpec : ChangeSpec := { name := "fnExactBinds", fn := fun _ => fun
  | [d1, d2] => { results := [.lit (.bool true)], args := [d1, d2] }
  | _ => none }
def fnExactBindsRow : OpenClaim := { program := "ytpegjdknlkpkbaa", sum := "2c84209320d7bad003a0b6d2d37af8e159c1afdc3f8e5eddb0b48f3eab3b7f2a", func := "loop.example/g00558/laws.FnExactBinds", spec := "fnExactBinds", apart := false }
def FnExactBindsSaid : Prop := fnExactBindsRow.holds Try.pinned (OpenSpec.ofChange fnExactBindsSpec)

/-- ITS FALSE NEIGHBOUR: 'it returns false'. Refute it at one input. -/
def fnExactBindsWrong : ChangeSpec := { name := "fnExactBinds", fn := fun _ => fun
  | [d1, d2] => { results := [.lit (.bool false)], args := [d1, d2] }
  | _ => none }
def FnExactBindsWrongFalsely : Prop := fnExactBindsRow.holds Try.pinned (OpenSpec.ofChange fnExactBindsWrong)

/- THE SECOND FORM. 'bulk': how many values and letters a reading holds, each counted each time it is reached (what is shared counts as often as it is met; a slice's spare places count too). A statement '..UptoSaid' is the law's where the arguments, and the package variables that the reading takes, are together of bulk at most 1048576: NARROWER than '..Said'. Prove '..Said' where nothing that the law and all that it calls make is longer than what came in: it says more and counts as full. Else prove '..UptoSaid'. A law counts once. -/
mutual
def uptoBulk {H : Type} : DataW H → Nat
  | .lit (.string bytes) => bytes.length + 1
  | .lit _ => 1
  | .nil => 1
  | .ptr d => uptoBulk d + 1
  | .slice elems spare => uptoBulkAll elems + uptoBulkAll spare + 1
  | .agg parts => uptoBulkAll parts + 1
  | .iface _ d => uptoBulk d + 1
  | .map entries => uptoBulkEntries entries + 1
  | .held _ => 1
def uptoBulkAll {H : Type} : List (DataW H) → Nat
  | [] => 0
  | d :: r => uptoBulk d + uptoBulkAll r
def uptoBulkEntries {H : Type} : List (Lit × DataW H) → Nat
  | [] => 0
  | x :: r => uptoBulkEntry x + uptoBulkEntries r
def uptoBulkEntry {H : Type} : Lit × DataW H → Nat
  | (.string bytes, d) => bytes.length + uptoBulk d + 1
  | (_, d) => uptoBulk d + 1
 end
def uptoSmall : (H : Type) → List (DataW H) → Bool := fun _ ds => decide (uptoBulkAll ds ≤ 1048576)
def OpenSpec.upto (s : _root_.Go.ChangeSpec) : _root_.Go.OpenSpec := { _root_.Go.OpenSpec.ofChange s with cond := some uptoSmall }

/-- 'laws.FnExactHelloOk', WHERE WHAT IT READS IS OF BULK AT MOST 1048576: true; the input reads as it did. -/
def fnExactHelloOkUptoRow : OpenClaim := { program := "ytpegjdknlkpkbaa", sum := "2c84209320d7bad003a0b6d2d37af8e159c1afdc3f8e5eddb0b48f3eab3b7f2a", func := "loop.example/g00558/laws.FnExactHelloOk", spec := "fnExactHelloOk", apart := false, narrowed := true }
def FnExactHelloOkUptoSaid : Prop := fnExactHelloOkUptoRow.holds Try.pinned (OpenSpec.upto fnExactHelloOkSpec)

/-- 'laws.FnExactGreeting', WHERE WHAT IT READS IS OF BULK AT MOST 1048576: true; the input reads as it did. -/
def fnExactGreetingUptoRow : OpenClaim := { program := "ytpegjdknlkpkbaa", sum := "2c84209320d7bad003a0b6d2d37af8e159c1afdc3f8e5eddb0b48f3eab3b7f2a", func := "loop.example/g00558/laws.FnExactGreeting", spec := "fnExactGreeting", apart := false, narrowed := true }
def FnExactGreetingUptoSaid : Prop := fnExactGreetingUptoRow.holds Try.pinned (OpenSpec.upto fnExactGreetingSpec)

/-- 'laws.FnExactBinds', WHERE WHAT IT READS IS OF BULK AT MOST 1048576: true; the input reads as it did. -/
def fnExactBindsUptoRow : OpenClaim := { program := "ytpegjdknlkpkbaa", sum := "2c84209320d7bad003a0b6d2d37af8e159c1afdc3f8e5eddb0b48f3eab3b7f2a", func := "loop.example/g00558/laws.FnExactBinds", spec := "fnExactBinds", apart := false, narrowed := true }
def FnExactBindsUptoSaid : Prop := fnExactBindsUptoRow.holds Try.pinned (OpenSpec.upto fnExactBindsSpec)

end Rows
end Go.Proofs.Ytpegjdknlkpkbaa

/-
  No cell of these rows narrows 'for every input' (looked for: loops, veiled, ifaces, maps, wideKeys, modest, calm, conditions, laid).
  DERIVED. THE GIVEN ROWS OF THIS SEAT. 9 by the template 'for every input the law returns true; each argument reads behind the call as it read before'; 0 by the template 'total and deterministic' (their statements: YtdppkdldjkpmpaaTotals.lean).
  GIVEN WITH THE SEED: the statements are not yours to turn. If you find one false, say at which input.
  Laid BY PROGRAM, IN A SANDBOX (cutbox-rows.mjs): the forced cells as the released guide's own fill.sh prints them over the translation 36215c26f1275d68… (all of the seat's roots in one cut). By AI agents, Wed Nov 11 2026. No macro, syntax, notation, axiom, sorry.
-/
import Derived.Test.YtdppkdldjkpmpaaChecked
import GoSem.Claim
import GoSem.ClaimJoined
import GoSem.ClaimMapViews
import Derived.JoinedTies
import Derived.KernelRfl
namespace Go.Proofs.Ytdppkdldjkpmpaa
/- THE CELL 'sum', in the pinned program and in every row, IS THE sha256 OF THE DUMP (.gsa) THAT YtdppkdldjkpmpaaProg.lean LOADS. Nothing in Lean hashes anything: it is a label: what it is worth is what the hold of that sum in a sandbox is worth. -/
noncomputable def Try.pinned : Pinned := { name := "ytdppkdldjkpmpaa", sum := "36215c26f1275d6808a01c43004dbf956cd3e53a7642cc83f5f22c278da3eb02", checked := Try.checked }
namespace Rows
def none {H : Type} : Left H := { results := [], args := [] }

/-- 'laws.FnKeys': WHATEVER THE INPUT: true; the input reads as it did. -/
def fnKeysSpec : ChangeSpec := { name := "fnKeys", fn := fun _ => fun
  | [d] => { results := [.lit (.bool true)], args := [d] }
  | _ => none }
def fnKeysRow : OpenClaim := { program := "ytdppkdldjkpmpaa", sum := "36215c26f1275d6808a01c43004dbf956cd3e53a7642cc83f5f22c278da3eb02", func := "loop.example/g00558/laws.FnKeys", spec := "fnKeys", apart := false }
def FnKeysSaid : Prop := fnKeysRow.holds Try.pinned (OpenSpec.ofChange fnKeysSpec)

/-- ITS FALSE NEIGHBOUR: 'it returns false'. Refute it at one input. -/
def fnKeysWrong : ChangeSpec := { name := "fnKeys", fn := fun _ => fun
  | [d] => { results := [.lit (.bool false)], args := [d] }
  | _ => none }
def FnKeysWrongFalsely : Prop := fnKeysRow.holds Try.pinned (OpenSpec.ofChange fnKeysWrong)

/-- 'laws.FnExactKeyOk': WHATEVER THE INPUT: true; the input reads as it did. -/
def fnExactKeyOkSpec : ChangeSpec := { name := "fnExactKeyOk", fn := fun _ => fun
  | [d] => { results := [.lit (.bool true)], args := [d] }
  | _ => none }
def fnExactKeyOkRow : OpenClaim := { program := "ytdppkdldjkpmpaa", sum := "36215c26f1275d6808a01c43004dbf956cd3e53a7642cc83f5f22c278da3eb02", func := "loop.example/g00558/laws.FnExactKeyOk", spec := "fnExactKeyOk", apart := false }
def FnExactKeyOkSaid : Prop := fnExactKeyOkRow.holds Try.pinned (OpenSpec.ofChange fnExactKeyOkSpec)

/-- ITS FALSE NEIGHBOUR: 'it returns false'. Refute it at one input. -/
def fnExactKeyOkWrong : ChangeSpec := { name := "fnExactKeyOk", fn := fun _ => fun
  | [d] => { results := [.lit (.bool false)], args := [d] }
  | _ => none }
def FnExactKeyOkWrongFalsely : Prop := fnExactKeyOkRow.holds Try.pinned (OpenSpec.ofChange fnExactKeyOkWrong)

/-- 'laws.FnExactEarlyKey': WHATEVER THE INPUT: true; the input reads as it did. -/
def fnExactEarlyKeySpec : ChangeSpec := { name := "fnExactEarlyKey", fn := fun _ => fun
  | [d1, d2] => { results := [.lit (.bool true)], args := [d1, d2] }
  | _ => none }
def fnExactEarlyKeyRow : OpenClaim := { program := "ytdppkdldjkpmpaa", sum := "36215c26f1275d6808a01c43004dbf956cd3e53a7642cc83f5f22c278da3eb02", func := "loop.example/g00558/laws.FnExactEarlyKey", spec := "fnExactEarlyKey", apart := false }
def FnExactEarlyKeySaid : Prop := fnExactEarlyKeyRow.holds Try.pinned (OpenSpec.ofChange fnExactEarlyKeySpec)

/-- ITS FALSE NEIGHBOUR: 'it returns false'. Refute it at one input. -/
def fnExactEarlyKeyWrong : ChangeSpec := { name := "fnExactEarlyKey", fn := fun _ => fun
  | [d1, d2] => { results := [.lit (.bool false)], args := [d1, d2] }
  | _ => none }
def FnExactEarlyKeyWrongFalsely : Prop := fnExactEarlyKeyRow.holds Try.pinned (OpenSpec.ofChange fnExactEarlyKeyWrong)

/-- 'laws.FnExactBindKey': WHATEVER THE INPUT: true; the input reads as it did. -/
def fnExactBindKeySpec : ChangeSpec := { name := "fnExactBindKey", fn := fun _ => fun
  | [d1, d2] => { results := [.lit (.bool true)], args := [d1, d2] }
  | _ => none }
def fnExactBindKeyRow : OpenClaim := { program := "ytdppkdldjkpmpaa", sum := "36215c26f1275d6808a01c43004dbf956cd3e53a7642cc83f5f22c278da3eb02", func := "loop.example/g00558/laws.FnExactBindKey", spec := "fnExactBindKey", apart := false }
def FnExactBindKeySaid : Prop := fnExactBindKeyRow.holds Try.pinned (OpenSpec.ofChange fnExactBindKeySpec)

/-- ITS FALSE NEIGHBOUR: 'it returns false'. Refute it at one input. -/
def fnExactBindKeyWrong : ChangeSpec := { name := "fnExactBindKey", fn := fun _ => fun
  | [d1, d2] => { results := [.lit (.bool false)], args := [d1, d2] }
  | _ => none }
def FnExactBindKeyWrongFalsely : Prop := fnExactBindKeyRow.holds Try.pinned (OpenSpec.ofChange fnExactBindKeyWrong)

/-- 'laws.FnExactTokenKey': WHATEVER THE INPUT: true; the input reads as it did. -/
def fnExactTokenKeySpec : ChangeSpec := { name := "fnExactTokenKey", fn := fun _ => fun
  | [d] => { results := [.lit (.bool true)], args := [d] }
  | _ => none }
def fnExactTokenKeyRow : OpenClaim := { program := "ytdppkdldjkpmpaa", sum := "36215c26f1275d6808a01c43004dbf956cd3e53a7642cc83f5f22c278da3eb02", func := "loop.example/g00558/laws.FnExactTokenKey", spec := "fnExactTokenKey", apart := false }
def FnExactTokenKeySaid : Prop := fnExactTokenKeyRow.holds Try.pinned (OpenSpec.ofChange fnExactTokenKeySpec)

/-- ITS FALSE NEIGHBOUR: 'it returns false'. Refute it at one input. -/
def fnExactTokenKeyWrong : ChangeSpec := { name := "fnExactTokenKey", fn := fun _ => fun
  | [d] => { results := [.lit (.bool false)], args := [d] }
  | _ => none }
def FnExactTokenKeyWrongFalsely : Prop := fnExactTokenKeyRow.holds Try.pinned (OpenSpec.ofChange fnExactTokenKeyWrong)

/-- 'laws.FnExactHandKey': WHATEVER THE INPUT: true; the input reads as it did. -/
def fnExactHandKeySpec : ChangeSpec := { name := "fnExactHandKey", fn := fun _ => fun
  | [d1, d2, d3] => { results := [.lit (.bool true)], args := [d1, d2, d3] }
  | _ => none }
def fnExactHandKeyRow : OpenClaim := { program := "ytdppkdldjkpmpaa", sum := "36215c26f1275d6808a01c43004dbf956cd3e53a7642cc83f5f22c278da3eb02", func := "loop.example/g00558/laws.FnExactHandKey", spec := "fnExactHandKey", apart := false }
def FnExactHandKeySaid : Prop := fnExactHandKeyRow.holds Try.pinned (OpenSpec.ofChange fnExactHandKeySpec)

/-- ITS FALSE NEIGHBOUR: 'it returns false'. Refute it at one input. -/
def fnExactHandKeyWrong : ChangeSpec := { name := "fnExactHandKey", fn := fun _ => fun
  | [d1, d2, d3] => { results := [.lit (.bool false)], args := [d1, d2, d3] }
  | _ => none }
def FnExactHandKeyWrongFalsely : Prop := fnExactHandKeyRow.holds Try.pinned (OpenSpec.ofChange fnExactHandKeyWrong)

/-- 'laws.FnExactForthKey': WHATEVER THE INPUT: true; the input reads as it did. -/
def fnExactForthKeySpec : ChangeSpec := { name := "fnExactForthKey", fn := fun _ => fun
  | [d1, d2, d3] => { results := [.lit (.bool true)], args := [d1, d2, d3] }
  | _ => none }
def fnExactForthKeyRow : OpenClaim := { program := "ytdppkdldjkpmpaa", sum := "36215c26f1275d6808a01c43004dbf956cd3e53a7642cc83f5f22c278da3eb02", func := "loop.example/g00558/laws.FnExactForthKey", spec := "fnExactForthKey", apart := false }
def FnExactForthKeySaid : Prop := fnExactForthKeyRow.holds Try.pinned (OpenSpec.ofChange fnExactForthKeySpec)

/-- ITS FALSE NEIGHBOUR: 'it returns false'. Refute it at one input. -/
def fnExactForthKeyWrong : ChangeSpec := { name := "fnExactForthKey", fn := fun _ => fun
  | [d1, d2, d3] => { results := [.lit (.bool false)], args := [d1, d2, d3] }
  | _ => none }
def FnExactForthKeyWrongFalsely : Prop := fnExactForthKeyRow.holds Try.pinned (OpenSpec.ofChange fnExactForthKeyWrong)

/-- 'laws.FnExactBackKey': WHATEVER THE INPUT: true; the input reads as it did. -/
def fnExactBackKeySpec : ChangeSpec := { name := "fnExactBackKey", fn := fun _ => fun
  | [d1, d2, d3] => { results := [.lit (.bool true)], args := [d1, d2, d3] }
  | _ => none }
def fnExactBackKeyRow : OpenClaim := { program := "ytdppkdldjkpmpaa", sum := "36215c26f1275d6808a01c43004dbf956cd3e53a7642cc83f5f22c278da3eb02", func := "loop.example/g00558/laws.FnExactBackKey", spec := "fnExactBackKey", apart := false }
def FnExactBackKeySaid : Prop := fnExactBackKeyRow.holds Try.pinned (OpenSpec.ofChange fnExactBackKeySpec)

/-- ITS FALSE NEIGHBOUR: 'it returns false'. Refute it at one input. -/
def fnExactBackKeyWrong : ChangeSpec := { name := "fnExactBackKey", fn := fun _ => fun
  | [d1, d2, d3] => { results := [.lit (.bool false)], args := [d1, d2, d3] }
  | _ => none }
def FnExactBackKeyWrongFalsely : Prop := fnExactBackKeyRow.holds Try.pinned (OpenSpec.ofChange fnExactBackKeyWrong)

/-- 'laws.FnExactNextKey': WHATEVER THE INPUT: true; the input reads as it did. -/
def fnExactNextKeySpec : ChangeSpec := { name := "fnExactNextKey", fn := fun _ => fun
  | [d] => { results := [.lit (.bool true)], args := [d] }
  | _ => none }
def fnExactNextKeyRow : OpenClaim := { program := "ytdppkdldjkpmpaa", sum := "36215c26f1275d6808a01c43004dbf956cd3e53a7642cc83f5f22c278da3eb02", func := "loop.example/g00558/laws.FnExactNextKey", spec := "fnExactNextKey", apart := false }
def FnExactNextKeySaid : Prop := fnExactNextKeyRow.holds Try.pinned (OpenSpec.ofChange fnExactNextKeySpec)

/-- ITS FALSE NEIGHBOUR: 'it returns false'. Refute it at one input. -/
def fnExactNextKeyWrong : ChangeSpec := { name := "fnExactNextKey", fn := fun _ => fun
  | [d] => { results := [.lit (.bool false)], args := [d] }
  | _ => none }
def FnExactNextKeyWrongFalsely : Prop := fnExactNextKeyRow.holds Try.pinned (OpenSpec.ofChange fnExactNextKeyWrong)

/- THE SECOND FORM. 'bulk': how many values and letters a reading holds, each counted each time it is reached (what is shared counts as often as it is met; a slice's spare places count too). A statement '..UptoSaid' is the law's where the arguments, and the package variables that the reading takes, are together of bulk at most 1048576: NARROWER than '..Said'. Prove '..Said' where nothing that the law and all that it calls make is longer than what came in: it says more and counts as full. Else prove '..UptoSaid'. A law counts once. -/
mutual
def uptoBulk {H : Type} : DataW H → Nat
  | .lit (.string bytes) => bytes.length + 1
  | .lit _ => 1
  | .nil => 1
  | .ptr d => uptoBulk d + 1
  | .slice elems spare => uptoBulkAll elems + uptoBulkAll spare + 1
  | .agg parts => uptoBulkAll parts + 1
  | .iface _ d => uptoBulk d + 1
  | .map entries => uptoBulkEntries entries + 1
  | .held _ => 1
def uptoBulkAll {H : Type} : List (DataW H) → Nat
  | [] => 0
  | d :: r => uptoBulk d + uptoBulkAll r
def uptoBulkEntries {H : Type} : List (Lit × DataW H) → Nat
  | [] => 0
  | x :: r => uptoBulkEntry x + uptoBulkEntries r
def uptoBulkEntry {H : Type} : Lit × DataW H → Nat
  | (.string bytes, d) => bytes.length + uptoBulk d + 1
  | (_, d) => uptoBulk d + 1
 end
def uptoSmall : (H : Type) → List (DataW H) → Bool := fun _ ds => decide (uptoBulkAll ds ≤ 1048576)
def OpenSpec.upto (s : _root_.Go.ChangeSpec) : _root_.Go.OpenSpec := { _root_.Go.OpenSpec.ofChange s with cond := some uptoSmall }

/-- 'laws.FnKeys', WHERE WHAT IT READS IS OF BULK AT MOST 1048576: true; the input reads as it did. -/
def fnKeysUptoRow : OpenClaim := { program := "ytdppkdldjkpmpaa", sum := "36215c26f1275d6808a01c43004dbf956cd3e53a7642cc83f5f22c278da3eb02", func := "loop.example/g00558/laws.FnKeys", spec := "fnKeys", apart := false, narrowed := true }
def FnKeysUptoSaid : Prop := fnKeysUptoRow.holds Try.pinned (OpenSpec.upto fnKeysSpec)

/-- 'laws.FnExactKeyOk', WHERE WHAT IT READS IS OF BULK AT MOST 1048576: true; the input reads as it did. -/
def fnExactKeyOkUptoRow : OpenClaim := { program := "ytdppkdldjkpmpaa", sum := "36215c26f1275d6808a01c43004dbf956cd3e53a7642cc83f5f22c278da3eb02", func := "loop.example/g00558/laws.FnExactKeyOk", spec := "fnExactKeyOk", apart := false, narrowed := true }
def FnExactKeyOkUptoSaid : Prop := fnExactKeyOkUptoRow.holds Try.pinned (OpenSpec.upto fnExactKeyOkSpec)

/-- 'laws.FnExactEarlyKey', WHERE WHAT IT READS IS OF BULK AT MOST 1048576: true; the input reads as it did. -/
def fnExactEarlyKeyUptoRow : OpenClaim := { program := "ytdppkdldjkpmpaa", sum := "36215c26f1275d6808a01c43004dbf956cd3e53a7642cc83f5f22c278da3eb02", func := "loop.example/g00558/laws.FnExactEarlyKey", spec := "fnExactEarlyKey", apart := false, narrowed := true }
def FnExactEarlyKeyUptoSaid : Prop := fnExactEarlyKeyUptoRow.holds Try.pinned (OpenSpec.upto fnExactEarlyKeySpec)

/-- 'laws.FnExactBindKey', WHERE WHAT IT READS IS OF BULK AT MOST 1048576: true; the input reads as it did. -/
def fnExactBindKeyUptoRow : OpenClaim := { program := "ytdppkdldjkpmpaa", sum := "36215c26f1275d6808a01c43004dbf956cd3e53a7642cc83f5f22c278da3eb02", func := "loop.example/g00558/laws.FnExactBindKey", spec := "fnExactBindKey", apart := false, narrowed := true }
def FnExactBindKeyUptoSaid : Prop := fnExactBindKeyUptoRow.holds Try.pinned (OpenSpec.upto fnExactBindKeySpec)

/-- 'laws.FnExactTokenKey', WHERE WHAT IT READS IS OF BULK AT MOST 1048576: true; the input reads as it did. -/
def fnExactTokenKeyUptoRow : OpenClaim := { program := "ytdppkdldjkpmpaa", sum := "36215c26f1275d6808a01c43004dbf956cd3e53a7642cc83f5f22c278da3eb02", func := "loop.example/g00558/laws.FnExactTokenKey", spec := "fnExactTokenKey", apart := false, narrowed := true }
def FnExactTokenKeyUptoSaid : Prop := fnExactTokenKeyUptoRow.holds Try.pinned (OpenSpec.upto fnExactTokenKeySpec)

/-- 'laws.FnExactHandKey', WHERE WHAT IT READS IS OF BULK AT MOST 1048576: true; the input reads as it did. -/
def fnExactHandKeyUptoRow : OpenClaim := { program := "ytdppkdldjkpmpaa", sum := "36215c26f1275d6808a01c43004dbf956cd3e53a7642cc83f5f22c278da3eb02", func := "loop.example/g00558/laws.FnExactHandKey", spec := "fnExactHandKey", apart := false, narrowed := true }
def FnExactHandKeyUptoSaid : Prop := fnExactHandKeyUptoRow.holds Try.pinned (OpenSpec.upto fnExactHandKeySpec)

/-- 'laws.FnExactForthKey', WHERE WHAT IT READS IS OF BULK AT MOST 1048576: true; the input reads as it did. -/
def fnExactForthKeyUptoRow : OpenClaim := { program := "ytdppkdldjkpmpaa", sum := "36215c26f1275d6808a01c43004dbf956cd3e53a7642cc83f5f22c278da3eb02", func := "loop.example/g00558/laws.FnExactForthKey", spec := "fnExactForthKey", apart := false, narrowed := true }
def FnExactForthKeyUptoSaid : Prop := fnExactForthKeyUptoRow.holds Try.pinned (OpenSpec.upto fnExactForthKeySpec)

/-- 'laws.FnExactBackKey', WHERE WHAT IT READS IS OF BULK AT MOST 1048576: true; the input reads as it did. -/
def fnExactBackKeyUptoRow : OpenClaim := { program := "ytdppkdldjkpmpaa", sum := "36215c26f1275d6808a01c43004dbf956cd3e53a7642cc83f5f22c278da3eb02", func := "loop.example/g00558/laws.FnExactBackKey", spec := "fnExactBackKey", apart := false, narrowed := true }
def FnExactBackKeyUptoSaid : Prop := fnExactBackKeyUptoRow.holds Try.pinned (OpenSpec.upto fnExactBackKeySpec)

/-- 'laws.FnExactNextKey', WHERE WHAT IT READS IS OF BULK AT MOST 1048576: true; the input reads as it did. -/
def fnExactNextKeyUptoRow : OpenClaim := { program := "ytdppkdldjkpmpaa", sum := "36215c26f1275d6808a01c43004dbf956cd3e53a7642cc83f5f22c278da3eb02", func := "loop.example/g00558/laws.FnExactNextKey", spec := "fnExactNextKey", apart := false, narrowed := true }
def FnExactNextKeyUptoSaid : Prop := fnExactNextKeyUptoRow.holds Try.pinned (OpenSpec.upto fnExactNextKeySpec)

end Rows
end Go.Proofs.Ytdppkdldjkpmpaa

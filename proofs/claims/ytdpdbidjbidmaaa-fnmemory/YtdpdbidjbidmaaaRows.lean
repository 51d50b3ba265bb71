/-
  No cell of these rows narrows 'for every input' (looked for: loops, veiled, ifaces, maps, wideKeys, modest, calm, conditions, laid).
  DERIVED. THE GIVEN ROWS OF THIS SEAT. 6 by the template 'for every input the law returns true; each argument reads behind the call as it read before'; 0 by the template 'total and deterministic' (their statements: YtdpdbidjbidmaaaTotals.lean).
  GIVEN WITH THE SEED: the statements are not yours to turn. If you find one false, say at which input.
  Laid BY PROGRAM, IN A SANDBOX (cutbox-rows.mjs): the forced cells as the released guide's own fill.sh prints them over the translation 0d0b0245942b8d80… (all of the seat's roots in one cut). By AI agents, Wed Nov 11 2026. No macro, syntax, notation, axiom, sorry.
-/
import Derived.Test.YtdpdbidjbidmaaaChecked
import GoSem.Claim
import GoSem.ClaimJoined
import GoSem.ClaimMapViews
import Derived.JoinedTies
import Derived.KernelRfl
namespace Go.Proofs.Ytdpdbidjbidmaaa
/- THE CELL 'sum', in the pinned program and in every row, IS THE sha256 OF THE DUMP (.gsa) THAT YtdpdbidjbidmaaaProg.lean LOADS. Nothing in Lean hashes anything: it is a label: what it is worth is what the hold of that sum in a sandbox is worth. -/
noncomputable def Try.pinned : Pinned := { name := "ytdpdbidjbidmaaa", sum := "0d0b0245942b8d806b6e0bd79c76aef10b81a376c7ef1cd88b3bca87c88597a4", checked := Try.checked }
namespace Rows
def none {H : Type} : Left H := { results := [], args := [] }

/-- 'laws.FnMemory': WHATEVER THE INPUT: true; the input reads as it did. -/
def fnMemorySpec : ChangeSpec := { name := "fnMemory", fn := fun _ => fun
  | [d] => { results := [.lit (.bool true)], args := [d] }
  | _ => none }
def fnMemoryRow : OpenClaim := { program := "ytdpdbidjbidmaaa", sum := "0d0b0245942b8d806b6e0bd79c76aef10b81a376c7ef1cd88b3bca87c88597a4", func := "loop.example/g00558/laws.FnMemory", spec := "fnMemory", unfollowed := true, recurses := true, apart := false }
def FnMemorySaid : Prop := fnMemoryRow.holds Try.pinned (OpenSpec.ofChange fnMemorySpec)

/-- ITS FALSE NEIGHBOUR: 'it returns false'. Refute it at one input. -/
def fnMemoryWrong : ChangeSpec := { name := "fnMemory", fn := fun _ => fun
  | [d] => { results := [.lit (.bool false)], args := [d] }
  | _ => none }
def FnMemoryWrongFalsely : Prop := fnMemoryRow.holds Try.pinned (OpenSpec.ofChange fnMemoryWrong)

/-- 'laws.FnExactMemoryOk': WHATEVER THE INPUT: true; the input reads as it did. -/
def fnExactMemoryOkSpec : ChangeSpec := { name := "fnExactMemoryOk", fn := fun _ => fun
  | [d] => { results := [.lit (.bool true)], args := [d] }
  | _ => none }
def fnExactMemoryOkRow : OpenClaim := { program := "ytdpdbidjbidmaaa", sum := "0d0b0245942b8d806b6e0bd79c76aef10b81a376c7ef1cd88b3bca87c88597a4", func := "loop.example/g00558/laws.FnExactMemoryOk", spec := "fnExactMemoryOk", unfollowed := true, recurses := true, apart := false }
def FnExactMemoryOkSaid : Prop := fnExactMemoryOkRow.holds Try.pinned (OpenSpec.ofChange fnExactMemoryOkSpec)

/-- ITS FALSE NEIGHBOUR: 'it returns false'. Refute it at one input. -/
def fnExactMemoryOkWrong : ChangeSpec := { name := "fnExactMemoryOk", fn := fun _ => fun
  | [d] => { results := [.lit (.bool false)], args := [d] }
  | _ => none }
def FnExactMemoryOkWrongFalsely : Prop := fnExactMemoryOkRow.holds Try.pinned (OpenSpec.ofChange fnExactMemoryOkWrong)

/-- 'laws.FnExactNewMemory': WHATEVER THE INPUT: true; the input reads as it did. -/
def fnExactNewMemorySpec : ChangeSpec := { name := "fnExactNewMemory", fn := fun _ => fun
  | [d] => { results := [.lit (.bool true)], args := [d] }
  | _ => none }
def fnExactNewMemoryRow : OpenClaim := { program := "ytdpdbidjbidmaaa", sum := "0d0b0245942b8d806b6e0bd79c76aef10b81a376c7ef1cd88b3bca87c88597a4", func := "loop.example/g00558/laws.FnExactNewMemory", spec := "fnExactNewMemory", unfollowed := true, recurses := true, apart := false }
def FnExactNewMemorySaid : Prop := fnExactNewMemoryRow.holds Try.pinned (OpenSpec.ofChange fnExactNewMemorySpec)

/-- ITS FALSE NEIGHBOUR: 'it returns false'. Refute it at one input. -/
def fnExactNewMemoryWrong : ChangeSpec := { name := "fnExactNewMemory", fn := fun _ => fun
  | [d] => { results := [.lit (.bool false)], args := [d] }
  | _ => none }
def FnExactNewMemoryWrongFalsely : Prop := fnExactNewMemoryRow.holds Try.pinned (OpenSpec.ofChange fnExactNewMemoryWrong)

/-- 'laws.FnExactMayHear': WHATEVER THE INPUT: true; the input reads as it did. -/
def fnExactMayHearSpec : ChangeSpec := { name := "fnExactMayHear", fn := fun _ => fun
  | [d1, d2, d3, d4] => { results := [.lit (.bool true)], args := [d1, d2, d3, d4] }
  | _ => none }
def fnExactMayHearRow : OpenClaim := { program := "ytdpdbidjbidmaaa", sum := "0d0b0245942b8d806b6e0bd79c76aef10b81a376c7ef1cd88b3bca87c88597a4", func := "loop.example/g00558/laws.FnExactMayHear", spec := "fnExactMayHear", unfollowed := true, recurses := true, apart := false }
def FnExactMayHearSaid : Prop := fnExactMayHearRow.holds Try.pinned (OpenSpec.ofChange fnExactMayHearSpec)

/-- ITS FALSE NEIGHBOUR: 'it returns false'. Refute it at one input. -/
def fnExactMayHearWrong : ChangeSpec := { name := "fnExactMayHear", fn := fun _ => fun
  | [d1, d2, d3, d4] => { results := [.lit (.bool false)], args := [d1, d2, d3, d4] }
  | _ => none }
def FnExactMayHearWrongFalsely : Prop := fnExactMayHearRow.holds Try.pinned (OpenSpec.ofChange fnExactMayHearWrong)

/-- 'laws.FnExactNoted': WHATEVER THE INPUT: true; the input reads as it did. -/
def fnExactNotedSpec : ChangeSpec := { name := "fnExactNoted", fn := fun _ => fun
  | [d1, d2] => { results := [.lit (.bool true)], args := [d1, d2] }
  | _ => none }
def fnExactNotedRow : OpenClaim := { program := "ytdpdbidjbidmaaa", sum := "0d0b0245942b8d806b6e0bd79c76aef10b81a376c7ef1cd88b3bca87c88597a4", func := "loop.example/g00558/laws.FnExactNoted", spec := "fnExactNoted", unfollowed := true, recurses := true, apart := false }
def FnExactNotedSaid : Prop := fnExactNotedRow.holds Try.pinned (OpenSpec.ofChange fnExactNotedSpec)

/-- ITS FALSE NEIGHBOUR: 'it returns false'. Refute it at one input. -/
def fnExactNotedWrong : ChangeSpec := { name := "fnExactNoted", fn := fun _ => fun
  | [d1, d2] => { results := [.lit (.bool false)], args := [d1, d2] }
  | _ => none }
def FnExactNotedWrongFalsely : Prop := fnExactNotedRow.holds Try.pinned (OpenSpec.ofChange fnExactNotedWrong)

/-- 'laws.FnExactSeenIn': WHATEVER THE INPUT: true; the input reads as it did. -/
def fnExactSeenInSpec : ChangeSpec := { name := "fnExactSeenIn", fn := fun _ => fun
  | [d1, d2] => { results := [.lit (.bool true)], args := [d1, d2] }
  | _ => none }
def fnExactSeenInRow : OpenClaim := { program := "ytdpdbidjbidmaaa", sum := "0d0b0245942b8d806b6e0bd79c76aef10b81a376c7ef1cd88b3bca87c88597a4", func := "loop.example/g00558/laws.FnExactSeenIn", spec := "fnExactSeenIn", apart := false }
def FnExactSeenInSaid : Prop := fnExactSeenInRow.holds Try.pinned (OpenSpec.ofChange fnExactSeenInSpec)

/-- ITS FALSE NEIGHBOUR: 'it returns false'. Refute it at one input. -/
def fnExactSeenInWrong : ChangeSpec := { name := "fnExactSeenIn", fn := fun _ => fun
  | [d1, d2] => { results := [.lit (.bool false)], args := [d1, d2] }
  | _ => none }
def FnExactSeenInWrongFalsely : Prop := fnExactSeenInRow.holds Try.pinned (OpenSpec.ofChange fnExactSeenInWrong)

/- THE SECOND FORM. 'bulk': how many values and letters a reading holds, each counted each time it is reached (what is shared counts as often as it is met; a slice's spare places count too). A statement '..UptoSaid' is the law's where the arguments, and the package variables that the reading takes, are together of bulk at most 1048576: NARROWER than '..Said'. Prove '..Said' where nothing that the law and all that it calls make is longer than what came in: it says more and counts as full. Else prove '..UptoSaid'. A law counts once. -/
mutual
def uptoBulk {H : Type} : DataW H → Nat
  | .lit (.string bytes) => bytes.length + 1
  | .lit _ => 1
  | .nil => 1
  | .ptr d => uptoBulk d + 1
  | .slice elems spare => uptoBulkAll elems + uptoBulkAll spare + 1
  | .agg parts => uptoBulkAll parts + 1
  | .iface _ d => uptoBulk d + 1
  | .map entries => uptoBulkEntries entries + 1
  | .held _ => 1
def uptoBulkAll {H : Type} : List (DataW H) → Nat
  | [] => 0
  | d :: r => uptoBulk d + uptoBulkAll r
def uptoBulkEntries {H : Type} : List (Lit × DataW H) → Nat
  | [] => 0
  | x :: r => uptoBulkEntry x + uptoBulkEntries r
def uptoBulkEntry {H : Type} : Lit × DataW H → Nat
  | (.string bytes, d) => bytes.length + uptoBulk d + 1
  | (_, d) => uptoBulk d + 1
 end
def uptoSmall : (H : Type) → List (DataW H) → Bool := fun _ ds => decide (uptoBulkAll ds ≤ 1048576)
def OpenSpec.upto (s : _root_.Go.ChangeSpec) : _root_.Go.OpenSpec := { _root_.Go.OpenSpec.ofChange s with cond := some uptoSmall }

/-- 'laws.FnMemory', WHERE WHAT IT READS IS OF BULK AT MOST 1048576: true; the input reads as it did. -/
def fnMemoryUptoRow : OpenClaim := { program := "ytdpdbidjbidmaaa", sum := "0d0b0245942b8d806b6e0bd79c76aef10b81a376c7ef1cd88b3bca87c88597a4", func := "loop.example/g00558/laws.FnMemory", spec := "fnMemory", unfollowed := true, recurses := true, apart := false, narrowed := true }
def FnMemoryUptoSaid : Prop := fnMemoryUptoRow.holds Try.pinned (OpenSpec.upto fnMemorySpec)

/-- 'laws.FnExactMemoryOk', WHERE WHAT IT READS IS OF BULK AT MOST 1048576: true; the input reads as it did. -/
def fnExactMemoryOkUptoRow : OpenClaim := { program := "ytdpdbidjbidmaaa", sum := "0d0b0245942b8d806b6e0bd79c76aef10b81a376c7ef1cd88b3bca87c88597a4", func := "loop.example/g00558/laws.FnExactMemoryOk", spec := "fnExactMemoryOk", unfollowed := true, recurses := true, apart := false, narrowed := true }
def FnExactMemoryOkUptoSaid : Prop := fnExactMemoryOkUptoRow.holds Try.pinned (OpenSpec.upto fnExactMemoryOkSpec)

/-- 'laws.FnExactNewMemory', WHERE WHAT IT READS IS OF BULK AT MOST 1048576: true; the input reads as it did. -/
def fnExactNewMemoryUptoRow : OpenClaim := { program := "ytdpdbidjbidmaaa", sum := "0d0b0245942b8d806b6e0bd79c76aef10b81a376c7ef1cd88b3bca87c88597a4", func := "loop.example/g00558/laws.FnExactNewMemory", spec := "fnExactNewMemory", unfollowed := true, recurses := true, apart := false, narrowed := true }
def FnExactNewMemoryUptoSaid : Prop := fnExactNewMemoryUptoRow.holds Try.pinned (OpenSpec.upto fnExactNewMemorySpec)

/-- 'laws.FnExactMayHear', WHERE WHAT IT READS IS OF BULK AT MOST 1048576: true; the input reads as it did. -/
def fnExactMayHearUptoRow : OpenClaim := { program := "ytdpdbidjbidmaaa", sum := "0d0b0245942b8d806b6e0bd79c76aef10b81a376c7ef1cd88b3bca87c88597a4", func := "loop.example/g00558/laws.FnExactMayHear", spec := "fnExactMayHear", unfollowed := true, recurses := true, apart := false, narrowed := true }
def FnExactMayHearUptoSaid : Prop := fnExactMayHearUptoRow.holds Try.pinned (OpenSpec.upto fnExactMayHearSpec)

/-- 'laws.FnExactNoted', WHERE WHAT IT READS IS OF BULK AT MOST 1048576: true; the input reads as it did. -/
def fnExactNotedUptoRow : OpenClaim := { program := "ytdpdbidjbidmaaa", sum := "0d0b0245942b8d806b6e0bd79c76aef10b81a376c7ef1cd88b3bca87c88597a4", func := "loop.example/g00558/laws.FnExactNoted", spec := "fnExactNoted", unfollowed := true, recurses := true, apart := false, narrowed := true }
def FnExactNotedUptoSaid : Prop := fnExactNotedUptoRow.holds Try.pinned (OpenSpec.upto fnExactNotedSpec)

/-- 'laws.FnExactSeenIn', WHERE WHAT IT READS IS OF BULK AT MOST 1048576: true; the input reads as it did. -/
def fnExactSeenInUptoRow : OpenClaim := { program := "ytdpdbidjbidmaaa", sum := "0d0b0245942b8d806b6e0bd79c76aef10b81a376c7ef1cd88b3bca87c88597a4", func := "loop.example/g00558/laws.FnExactSeenIn", spec := "fnExactSeenIn", apart := false, narrowed := true }
def FnExactSeenInUptoSaid : Prop := fnExactSeenInUptoRow.holds Try.pinned (OpenSpec.upto fnExactSeenInSpec)

end Rows
end Go.Proofs.Ytdpdbidjbidmaaa

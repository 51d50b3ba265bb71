/-
  What the functions of chapter 3 of the model answer, and what toKey and eqKey of the laws do. No conditions.
-/
import Derived.WalkKit
import Derived.Lib.Hide
import Derived.Test.YtakhjdodljhfmaaLow
import Derived.Test.YtakhjdodljhfmaaKey0
import Derived.Test.YtakhjdodljhfmaaProg
namespace Go.Proofs.Ytakhjdodljhfmaa.Tx
open Go.RowKit

set_option maxHeartbeats 1000000 in
theorem eqKey_same (k : KeyV) (w : World) : Calls Try.prog 56 #[k.val, k.val] w fun e w' => e = .returned (.bool true) ∧ Below w.heap.size w w' := by
  obtain ⟨u, s, h, a⟩ := k
  unfold KeyV.val
  go_enter Try.func56, Try.ntmps56
  go_wp2
  go_ret
  exact ⟨rfl, ((Below.refl _ w).alloc (Nat.le_refl _) _).alloc (by simp) _⟩


end Go.Proofs.Ytakhjdodljhfmaa.Tx

/-
  What l6Time of the model answers. No conditions.
-/
import Derived.Test.YtakhjdodljhfmaaIn
namespace Go.Proofs.Ytakhjdodljhfmaa.Tx
open Go.RowKit


theorem isTime_any (n : Int) (w : World) : Calls Try.prog 60 #[.int .i64 n] w fun e w' => e = .returned (.bool (inB n 0 100000)) ∧ w = w' := by
  by_cases h1 : 0 ≤ n <;> by_cases h2 : n ≤ 100000
  all_goals
    go_enter Try.func60, Try.ntmps60
    go_wp2
    go_ret
    exact ⟨by simp [inB, h1, h2], rfl⟩

end Go.Proofs.Ytakhjdodljhfmaa.Tx

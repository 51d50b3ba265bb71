/-
  What the functions of chapter 4 of the program answer. No conditions.
-/
import Derived.Test.YtchdmmlkgglmcaaImpl3
import Derived.Test.YtchdmmlkgglmcaaBox
namespace Go.Proofs.Ytchdmmlkgglmcaa.Tx
open Go.RowKit

theorem isNo_any (n : Int) (w : World) : Calls Try.prog 62 #[.int .i64 n] w fun e w' => e = .returned (.bool (inB n 0 1000)) ∧ w = w' := by
  by_cases h1 : 0 ≤ n <;> by_cases h2 : n ≤ 1000
  all_goals
    go_enter Try.func62, Try.ntmps62
    go_wp2
    go_ret
    exact ⟨by simp [inB, h1, h2], rfl⟩

end Go.Proofs.Ytchdmmlkgglmcaa.Tx

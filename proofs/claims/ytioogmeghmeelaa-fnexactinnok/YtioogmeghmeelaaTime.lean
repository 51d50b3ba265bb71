/-
  What l6Time of the model answers. No conditions.
-/
import Derived.Test.YtioogmeghmeelaaIn
namespace Go.Proofs.Ytioogmeghmeelaa.Tx
open Go.RowKit

theorem l6Time_any (n : Int) (w : World) : Calls Try.prog 28 #[.int .i64 n] w fun e w' => e = .returned (.bool (inB n 0 100000)) ∧ w = w' := by
  generalize hb : inB n 0 100000 = b
  have hc := l1In_b n 0 100000
  rw [hb] at hc
  go_enter Try.func28, Try.ntmps28
  go_wp2_with (go_at_call 23; refine (hc _).mono ?_; rintro e w' ⟨rfl, rfl⟩)
  go_ret
  exact ⟨rfl, rfl⟩

theorem isTime_any (n : Int) (w : World) : Calls Try.prog 47 #[.int .i64 n] w fun e w' => e = .returned (.bool (inB n 0 100000)) ∧ w = w' := by
  by_cases h1 : 0 ≤ n <;> by_cases h2 : n ≤ 100000
  all_goals
    go_enter Try.func47, Try.ntmps47
    go_wp2
    go_ret
    exact ⟨by simp [inB, h1, h2], rfl⟩

end Go.Proofs.Ytioogmeghmeelaa.Tx

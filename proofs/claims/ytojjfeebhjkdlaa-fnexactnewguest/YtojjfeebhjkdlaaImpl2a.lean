/-
  What IsDraw of the program answers: it turns nothing. No conditions.
-/
import Derived.WalkKit
import Derived.Lib.Hide
import Derived.Test.YtojjfeebhjkdlaaDraws0
import Derived.Test.YtojjfeebhjkdlaaIn
import Derived.Test.YtojjfeebhjkdlaaProg
namespace Go.Proofs.Ytojjfeebhjkdlaa.Tx
open Go.RowKit

theorem isRight_any (n : Int) (w : World) : Calls Try.prog 17 #[.int .i64 n] w fun e w' => e = .returned (.bool (isDrawB n)) ∧ w = w' := by
  by_cases h1 : 1 ≤ n <;> by_cases h2 : n ≤ 100000
  all_goals
    go_enter Try.func17, Try.ntmps17
    go_wp2
    go_ret
    exact ⟨by simp [isDrawB, h1, h2], rfl⟩

theorem IsDraw_same (n : Int) (w : World) : Calls Try.prog 10 #[.int .i64 n] w fun e w' => e = .returned (.bool (isDrawB n)) ∧ w = w' := by
  generalize hb : isDrawB n = b
  have hc := isRight_any n
  rw [hb] at hc
  go_enter Try.func10, Try.ntmps10
  go_wp2_with (go_at_call 17; refine (hc _).mono ?_; rintro e w' ⟨rfl, rfl⟩)
  go_ret
  exact ⟨rfl, rfl⟩

theorem IsDraw_impl (n : Int) (w : World) : Calls Try.prog 10 #[.int .i64 n] w fun e w' => e = .returned (.bool (isDrawB n)) ∧ Below w.heap.size w w' :=
  (IsDraw_same n w).mono fun _ _ ⟨he, hw⟩ => ⟨he, hw ▸ Below.refl _ _⟩

end Go.Proofs.Ytojjfeebhjkdlaa.Tx

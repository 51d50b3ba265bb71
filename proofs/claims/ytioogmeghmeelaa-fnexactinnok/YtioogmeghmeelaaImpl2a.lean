/-
  What IsDraw of the program answers: it turns nothing. No conditions.
-/
import Derived.WalkKit
import Derived.Lib.Hide
import Derived.Test.YtioogmeghmeelaaDraws0
import Derived.Test.YtioogmeghmeelaaIn
import Derived.Test.YtioogmeghmeelaaProg
namespace Go.Proofs.Ytioogmeghmeelaa.Tx
open Go.RowKit

theorem isRight_any (n : Int) (w : World) : Calls Try.prog 48 #[.int .i64 n] w fun e w' => e = .returned (.bool (isDrawB n)) ∧ w = w' := by
  by_cases h1 : 1 ≤ n <;> by_cases h2 : n ≤ 100000
  all_goals
    go_enter Try.func48, Try.ntmps48
    go_wp2
    go_ret
    exact ⟨by simp [isDrawB, h1, h2], rfl⟩

theorem IsDraw_same (n : Int) (w : World) : Calls Try.prog 34 #[.int .i64 n] w fun e w' => e = .returned (.bool (isDrawB n)) ∧ w = w' := by
  generalize hb : isDrawB n = b
  have hc := isRight_any n
  rw [hb] at hc
  go_enter Try.func34, Try.ntmps34
  go_wp2_with (go_at_call 48; refine (hc _).mono ?_; rintro e w' ⟨rfl, rfl⟩)
  go_ret
  exact ⟨rfl, rfl⟩

theorem IsDraw_impl (n : Int) (w : World) : Calls Try.prog 34 #[.int .i64 n] w fun e w' => e = .returned (.bool (isDrawB n)) ∧ Below w.heap.size w w' :=
  (IsDraw_same n w).mono fun _ _ ⟨he, hw⟩ => ⟨he, hw ▸ Below.refl _ _⟩

end Go.Proofs.Ytioogmeghmeelaa.Tx

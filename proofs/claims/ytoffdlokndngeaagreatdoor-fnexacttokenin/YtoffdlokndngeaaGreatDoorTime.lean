/-
  What l6Time of the model answers. No conditions.
-/
import Derived.Test.YtoffdlokndngeaaGreatDoorIn
namespace Go.Proofs.YtoffdlokndngeaaGreatDoor.Tx
open Go.RowKit

theorem l6Time_any (n : Int) (w : World) : Calls Tryz.prog 40 #[.int .i64 n] w fun e w' => e = .returned (.bool (inB n 0 100000)) ∧ w = w' := by
  generalize hb : inB n 0 100000 = b
  have hc := l1In_b n 0 100000
  rw [hb] at hc
  go_enter Tryz.func40, Tryz.ntmps40
  go_wp2_with (go_at_call 44; refine (hc _).mono ?_; rintro e w' ⟨rfl, rfl⟩)
  go_ret
  exact ⟨rfl, rfl⟩

theorem isTime_any (n : Int) (w : World) : Calls Tryz.prog 64 #[.int .i64 n] w fun e w' => e = .returned (.bool (inB n 0 100000)) ∧ w = w' := by
  by_cases h1 : 0 ≤ n <;> by_cases h2 : n ≤ 100000
  all_goals
    go_enter Tryz.func64, Tryz.ntmps64
    go_wp2
    go_ret
    exact ⟨by simp [inB, h1, h2], rfl⟩

end Go.Proofs.YtoffdlokndngeaaGreatDoor.Tx

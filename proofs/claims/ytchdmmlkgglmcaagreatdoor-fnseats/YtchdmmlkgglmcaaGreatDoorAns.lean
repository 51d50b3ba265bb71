/-
  What the functions of chapter 11 of the model answer, and what toAnswer, szAnswer and eqAnswer of the laws do. Conditions: a box's text has at most 2^63 - 1 bytes; a pick is an int64.
-/
import Derived.Deep.DeepCutAuto
import Derived.Laws.CopyOwn
import Derived.Test.YtchdmmlkgglmcaaGreatDoorBox
import Derived.Test.YtchdmmlkgglmcaaGreatDoorAns0
import Derived.Test.YtchdmmlkgglmcaaGreatDoorOffs
import Derived.Test.YtchdmmlkgglmcaaGreatDoorRegionR
namespace Go.Proofs.YtchdmmlkgglmcaaGreatDoor.Tx
open Go.RowKit

theorem blk10 {w : World} {g : Nat} {v0 v1 v2 v3 v4 v5 v6 v7 v8 v9 : Value} {t : TypeId} (h : w.heap[g]? = some (.cells #[v0, v1, v2, v3, v4, v5, v6, v7, v8, v9] t (0, 0))) :
    (w.cell? ⟨g, 0, none⟩ = some v0 ∧ w.cell? ⟨g, 1, none⟩ = some v1 ∧ w.cell? ⟨g, 2, none⟩ = some v2 ∧ w.cell? ⟨g, 3, none⟩ = some v3 ∧ w.cell? ⟨g, 4, none⟩ = some v4 ∧ w.cell? ⟨g, 5, none⟩ = some v5 ∧ w.cell? ⟨g, 6, none⟩ = some v6 ∧ w.cell? ⟨g, 7, none⟩ = some v7 ∧ w.cell? ⟨g, 8, none⟩ = some v8 ∧ w.cell? ⟨g, 9, none⟩ = some v9) ∧
    (w.frozen? ⟨g, 0, none⟩ = false ∧ w.frozen? ⟨g, 1, none⟩ = false ∧ w.frozen? ⟨g, 2, none⟩ = false ∧ w.frozen? ⟨g, 3, none⟩ = false ∧ w.frozen? ⟨g, 4, none⟩ = false ∧ w.frozen? ⟨g, 5, none⟩ = false ∧ w.frozen? ⟨g, 6, none⟩ = false ∧ w.frozen? ⟨g, 7, none⟩ = false ∧ w.frozen? ⟨g, 8, none⟩ = false ∧ w.frozen? ⟨g, 9, none⟩ = false) :=
  ⟨⟨blk_cell h 0, blk_cell h 1, blk_cell h 2, blk_cell h 3, blk_cell h 4, blk_cell h 5, blk_cell h 6, blk_cell h 7, blk_cell h 8, blk_cell h 9⟩, blk_frozen h 0, blk_frozen h 1, blk_frozen h 2, blk_frozen h 3, blk_frozen h 4, blk_frozen h 5, blk_frozen h 6, blk_frozen h 7, blk_frozen h 8, blk_frozen h 9⟩

theorem l11Goes_any (p s : Int) (w : World) : Calls Tryz.prog 47 #[.int .i64 p, .int .i64 s] w fun e w' => e = .returned (.bool (goesP p s)) ∧ Below w.heap.size w w' := by
  by_cases h1 : p = 1
  · subst h1
    have HR : Hid (goesP 1 s = (s == 0)) := rfl
    go_enter Tryz.func47, Tryz.ntmps47
    go_wp2
    go_ret
    exact ⟨by rw [HR.out]; rfl, Below.refl _ _⟩
  · have h1' : (p == 1) = false := by simpa using h1
    by_cases h2 : p = 2
    · subst h2
      have HR : Hid (goesP 2 s = isDrawB s) := by show _ = _; simp [goesP]
      go_enter Tryz.func47, Tryz.ntmps47
      go_wp2_with fail
      refine (IsDraw_spec s _).mono ?_
      rintro e w' ⟨rfl, rfl⟩
      go_wp2
      go_ret
      exact ⟨by rw [HR.out]; rfl, Below.refl _ _⟩
    · have h2' : (p == 2) = false := by simpa using h2
      by_cases h3 : p = 3
      · subst h3
        have HR : Hid (goesP 3 s = isDrawB s) := by show _ = _; simp [goesP]
        go_enter Tryz.func47, Tryz.ntmps47
        go_wp2_with fail
        refine (IsDraw_spec s _).mono ?_
        rintro e w' ⟨rfl, rfl⟩
        go_wp2
        go_ret
        exact ⟨by rw [HR.out]; rfl, Below.refl _ _⟩
      · have h3' : (p == 3) = false := by simpa using h3
        have HR : Hid (goesP p s = false) := by show _ = _; rw [goesP, h1', h2', h3']; rfl
        go_enter Tryz.func47, Tryz.ntmps47
        go_wp2
        go_ret
        exact ⟨by rw [HR.out]; rfl, Below.refl _ _⟩

end Go.Proofs.YtchdmmlkgglmcaaGreatDoor.Tx

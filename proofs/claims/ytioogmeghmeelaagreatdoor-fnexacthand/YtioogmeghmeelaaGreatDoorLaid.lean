/-
  What the listed package-level variables give, and a world in which they lie. No conditions.
-/
import Derived.Test.YtioogmeghmeelaaGreatDoorRows
import Derived.Test.YtioogmeghmeelaaGreatDoorFmt
import Derived.LaidMore
import Derived.Stop.Joined
import Derived.Lib.LaidTab
import Derived.Stop.LaidErr
namespace Go.Proofs.YtioogmeghmeelaaGreatDoor.Tx
open Go.RowKit Go.ChangeShapes Go.WideShapes Go.ChangeAt

theorem gPow : Tryz.prog.globalNamed "internal/strconv.uint64pow10" = some 0 := by kernel_rfl
theorem tPow : (Tryz.prog.globals[0]?).map (·.type) = some 194 := by kernel_rfl
theorem tab_of {W : World} {rest : List (String × DataW Unit)} (h : laidMet Tryz.prog (("internal/strconv.uint64pow10", Rows.laid_internal_strconv_uint64pow10) :: rest) W) : Tab W :=
  Lib.tabIs_of_head gPow tPow Tryz.underlying194 Tryz.underlying170 (by kernel_rfl) (by kernel_rfl) (show laidMet Tryz.prog (("internal/strconv.uint64pow10", Lib.tabData .u64 Lib.pow10Tab) :: rest) W from h)

/-- The heap that the door's own run leaves. -/
noncomputable def doorWorld (os : Os) : World := World.doorLaid Tryz.prog 400 os
theorem door_shaped (os : Os) (args : Array Value) : World.Shaped Tryz.prog ((doorWorld os).forCall (fun _ _ => 0) ⟨#[], args, []⟩) := World.shaped_of_RefB (by kernel_rfl) (by kernel_rfl)

end Go.Proofs.YtioogmeghmeelaaGreatDoor.Tx

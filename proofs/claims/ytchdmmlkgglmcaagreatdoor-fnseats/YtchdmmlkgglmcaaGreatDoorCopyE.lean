/-
  A copy of a list of flat structs, as facts that are carried along. No conditions.
-/
import Derived.Test.YtchdmmlkgglmcaaGreatDoorEltsTo
import Derived.Test.YtchdmmlkgglmcaaGreatDoorFacts
namespace Go.Proofs.YtchdmmlkgglmcaaGreatDoor.Tx
open Go.RowKit

section
variable {α : Type} [Cells α] {w w' : World} {g n : Nat} {l : List α}
/-- The list l lies in block g, and may be written. -/
structure CopyE (w : World) (g n : Nat) (l : List α) : Prop where
  lies : Lies w g 0 l
  room : There w g 0 (n * Cells.sz α)
theorem CopyE.on (h : CopyE w g n l) (k : Below w.heap.size w w') : CopyE w' g n l := ⟨h.lies.below k, h.room.below h.lies.1 k⟩
theorem CopyE.below (h : CopyE w g n l) (k : Below w.heap.size w w') : CopyE w' g n l := h.on k
theorem CopiedE.at (h : CopiedE w n l w') : CopyE w' w.heap.size n l := ⟨h.has, h.room⟩
theorem CopyE.elts (h : CopyE w g n l) (hl : l.length = n) : EltsO w w.heap.size (some ⟨g, 0, none⟩) n l := by
  subst hl
  exact h.lies.elts
theorem MadeG.elts {base cb : Nat} {T : TypeId} (h : MadeE w base T l g cb) : EltsO w w.heap.size (some ⟨g, 0, none⟩) l.length l := h.lies.elts
end
/-- Its cells are there, and may be written. -/
theorem made_there {w : World} {B : Nat} {e : TypeId} {sz n : Nat} {vs : List Value} {gb cb : Nat} (h : MadeG w B e sz n vs gb cb) : There w gb 0 (n * sz) := fun t _ ht => h.room t ht

end Go.Proofs.YtchdmmlkgglmcaaGreatDoor.Tx

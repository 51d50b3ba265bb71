/-
  A copy of a list of boxes that toBoxS made, as facts that are carried along. No conditions.
-/
import Derived.Test.YthkgidibonkfbaaBoxesTo
import Derived.Test.YthkgidibonkfbaaFacts
namespace Go.Proofs.Ythkgidibonkfbaa.Tx
open Go.RowKit

theorem BoxAt.on {w w' : World} {g o : Nat} {b : BoxV} (h : BoxAt w g o b) (k : Below w.heap.size w w') : BoxAt w' g o b := h.below (World.block_lt_of_cell? w ⟨g, o, none⟩ h.1) k
theorem BoxAt.off {w w' : World} {g o g' : Nat} {b : BoxV} (h : BoxAt w g o b) (k : w.grownBy w' (some g')) (hne : g ≠ g') : BoxAt w' g o b :=
  ⟨cell_off h.1 k hne, cell_off h.2.1 k hne, cell_off h.2.2.1 k hne, cell_off h.2.2.2.1 k hne, cell_off h.2.2.2.2.1 k hne, cell_off h.2.2.2.2.2.1 k hne, cell_off h.2.2.2.2.2.2 k hne⟩
/-- The boxes bs lie in block g, and may be written. -/
structure CopyAt (w : World) (g n : Nat) (bs : List BoxV) : Prop where
  has : ∀ j, j < n → BoxAt w g (j * 7) (bs[j]?.getD .zero)
  room : There w g 0 (n * 7)
  lt : g < w.heap.size
theorem CopyAt.on {w w' : World} {g n : Nat} {bs : List BoxV} (h : CopyAt w g n bs) (k : Below w.heap.size w w') : CopyAt w' g n bs := ⟨fun j hj => (h.has j hj).on k, h.room.below h.lt k, Nat.lt_of_lt_of_le h.lt k.size⟩
theorem CopyAt.bxs {w : World} {g n : Nat} {bs : List BoxV} (h : CopyAt w g n bs) (hl : bs.length = n) : Bxs w w.heap.size (some ⟨g, 0, none⟩) n bs := ⟨hl, fun _ => ⟨g, 0, rfl, h.lt, fun j hj => by rw [Nat.zero_add]; exact h.has j hj⟩⟩
theorem CopiedB.at {w w' : World} {n : Nat} {bs : List BoxV} (h : CopiedB w n bs w') : CopyAt w' w.heap.size n bs := ⟨h.has, h.room, h.lt⟩

end Go.Proofs.Ythkgidibonkfbaa.Tx

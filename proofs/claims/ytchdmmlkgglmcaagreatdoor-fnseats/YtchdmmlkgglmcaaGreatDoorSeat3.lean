/-
  What toSeat, szSeat, eqSeat, markSeat and heldSeat of the laws do, and what EarlyIn of the model answers. Conditions: at most 1048576 words, each text at most 2^63 - 1 bytes.
-/
import Derived.Test.YtchdmmlkgglmcaaGreatDoorSeat
import Derived.Test.YtchdmmlkgglmcaaGreatDoorWordLists
import Derived.Test.YtchdmmlkgglmcaaGreatDoorWordMarks
import Derived.Test.YtchdmmlkgglmcaaGreatDoorCopyE
import Derived.Test.YtchdmmlkgglmcaaGreatDoorOffs
namespace Go.Proofs.YtchdmmlkgglmcaaGreatDoor.Tx
open Go.RowKit

theorem There.heap {w w' : World} {g a b : Nat} (h : There w g a b) (he : w'.heap[g]? = w.heap[g]?) : There w' g a b := fun t h0 h1 => by
  obtain ⟨⟨v, e⟩, e'⟩ := h t h0 h1
  exact ⟨⟨v, (World.cell?_of_block (w := w) (a := ⟨g, t, none⟩) he).trans e⟩, (World.frozen?_of_block (w := w) (a := ⟨g, t, none⟩) he).trans e'⟩
theorem CopyE.heap {α : Type} [Cells α] {w w' : World} {g n : Nat} {l : List α} (h : CopyE w g n l) (he : w'.heap[g]? = w.heap[g]?) (hs : w.heap.size ≤ w'.heap.size) : CopyE w' g n l := ⟨h.lies.heap he hs, h.room.heap he⟩

end Go.Proofs.YtchdmmlkgglmcaaGreatDoor.Tx

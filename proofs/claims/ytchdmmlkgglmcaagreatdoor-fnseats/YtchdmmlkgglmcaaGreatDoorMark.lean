/-
  What markText, markStringS and heldStringS of the laws do: each element of a list is marked by a text of its own number, and they are found so. Conditions: numbers from 0 to 2^62.
-/
import Derived.Laws.BytesArg
import Derived.Test.YtchdmmlkgglmcaaGreatDoorCur
import Derived.Test.YtchdmmlkgglmcaaGreatDoorLists
import Derived.Test.YtchdmmlkgglmcaaGreatDoorRegionL
import Derived.Test.YtchdmmlkgglmcaaGreatDoorBlk
import Derived.Test.YtchdmmlkgglmcaaGreatDoorDigs
namespace Go.Proofs.YtchdmmlkgglmcaaGreatDoor.Tx
open Go.RowKit

/-- The mark of k. -/
def markT (k : Nat) : ByteArray := if k = 0 then ⟨#[109, 48]⟩ else ⟨#[109]⟩ ++ digs k

theorem only_setRow {a w : World} {g : Nat} (h : a.grownBy w (some g)) (j : Nat) (u : Value) : a.grownBy (w.setCell ⟨g, j, none⟩ u) (some g) :=
  ⟨h.os, h.tape, h.output, by simpa [World.setCell] using h.size, fun i hi hne => (Below.heap_setCell w ⟨g, j, none⟩ u i (fun e => hne (by rw [e]))).trans (h.block i hi hne)⟩
/-- The cells of block g from a to b are there and may be written. -/
def There (w : World) (g a b : Nat) : Prop := ∀ t, a ≤ t → t < b → (∃ v, w.cell? ⟨g, t, none⟩ = some v) ∧ w.frozen? ⟨g, t, none⟩ = false
/-- The first m cells of block g are the marks of k, k + 1, .. -/
def Marked (w : World) (g k m : Nat) : Prop := ∀ t, t < m → w.cell? ⟨g, t, none⟩ = some (.string (markT (k + t)))
theorem There.lt {w : World} {g a b : Nat} (h : There w g a b) (hab : a < b) : g < w.heap.size := by
  obtain ⟨⟨v, hv⟩, _⟩ := h a (Nat.le_refl _) hab
  exact World.block_lt_of_cell? w ⟨g, a, none⟩ hv



end Go.Proofs.YtchdmmlkgglmcaaGreatDoor.Tx

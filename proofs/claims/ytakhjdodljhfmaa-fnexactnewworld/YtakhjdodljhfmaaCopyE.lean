/-
  Facts carried over a world that moves on: lists of strings and of boxes, blocks. Nothing of the program is named here. No conditions.
  A copy of a list of flat structs, as facts that are carried along. No conditions.
-/
import Derived.Test.YtakhjdodljhfmaaOwn
import Derived.Test.YtakhjdodljhfmaaOffs
import Derived.Test.YtakhjdodljhfmaaCurNew
import Derived.Test.YtakhjdodljhfmaaMarkBox
import Derived.Test.YtakhjdodljhfmaaEltsTo
namespace Go.Proofs.Ytakhjdodljhfmaa.Tx
open Go.RowKit

/-- A list argument's block lies below B: what is written from B on leaves it. -/

theorem cell_on {w w' : World} {p : Addr} {v : Value} (h : w.cell? p = some v) (b : Below w.heap.size w w') : w'.cell? p = some v := (b.cell (World.block_lt_of_cell? w p h)).trans h
theorem cell_off {w w' : World} {g : Nat} {p : Addr} {v : Value} (h : w.cell? p = some v) (k : w.grownBy w' (some g)) (hne : p.block ≠ g) : w'.cell? p = some v :=
  (World.cell?_of_block (w := w) (k.block p.block (World.block_lt_of_cell? w p h) (by intro e; exact hne (Option.some.inj e)))).trans h
theorem Filled.on {w w' : World} {g : Nat} {f : Nat → Value} {a : Nat} (h : Filled w g f a) (b : Below w.heap.size w w') : Filled w' g f a := fun t ht => cell_on (h t ht) b
theorem Filled.off {w w' : World} {g g' : Nat} {f : Nat → Value} {a : Nat} (h : Filled w g f a) (k : w.grownBy w' (some g')) (hne : g ≠ g') : Filled w' g f a := fun t ht => cell_off (h t ht) k hne
theorem Marked.on {w w' : World} {g k m : Nat} (h : Marked w g k m) (b : Below w.heap.size w w') : Marked w' g k m := fun t ht => cell_on (h t ht) b
theorem Marked.off {w w' : World} {g g' k m : Nat} (h : Marked w g k m) (q : w.grownBy w' (some g')) (hne : g ≠ g') : Marked w' g k m := fun t ht => cell_off (h t ht) q hne
theorem MadeG.there {w : World} {B : Nat} {e : TypeId} {sz n : Nat} {vs : List Value} {gb cb : Nat} (h : MadeG w B e sz n vs gb cb) : There w gb 0 (n * sz) := fun t _ ht => h.room t ht

end Go.Proofs.Ytakhjdodljhfmaa.Tx
namespace Go.Proofs.Ytakhjdodljhfmaa.Tx
open Go.RowKit

section
variable {α : Type} [Cells α] {w w' : World} {g n : Nat} {l : List α}
/-- The list l lies in block g, and may be written. -/
structure CopyE (w : World) (g n : Nat) (l : List α) : Prop where
  lies : Lies w g 0 l
  room : There w g 0 (n * Cells.sz α)
theorem CopyE.on (h : CopyE w g n l) (k : Below w.heap.size w w') : CopyE w' g n l := ⟨h.lies.below k, h.room.below h.lies.1 k⟩
theorem CopyE.below (h : CopyE w g n l) (k : Below w.heap.size w w') : CopyE w' g n l := h.on k
theorem CopiedE.at (h : CopiedE w n l w') : CopyE w' w.heap.size n l := ⟨h.has, h.room⟩
theorem CopyE.elts (h : CopyE w g n l) (hl : l.length = n) : EltsO w w.heap.size (some ⟨g, 0, none⟩) n l := by
  subst hl
  exact h.lies.elts
theorem MadeG.elts {base cb : Nat} {T : TypeId} (h : MadeE w base T l g cb) : EltsO w w.heap.size (some ⟨g, 0, none⟩) l.length l := h.lies.elts
end
/-- Its cells are there, and may be written. -/
theorem made_there {w : World} {B : Nat} {e : TypeId} {sz n : Nat} {vs : List Value} {gb cb : Nat} (h : MadeG w B e sz n vs gb cb) : There w gb 0 (n * sz) := fun t _ ht => h.room t ht

end Go.Proofs.Ytakhjdodljhfmaa.Tx

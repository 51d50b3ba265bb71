/-
  Facts carried over a world that moves on: lists of strings and of boxes, blocks. Nothing of the program is named here. No conditions.
-/
import Derived.Test.YtchdmmlkgglmcaaDoorOwn
import Derived.Test.YtchdmmlkgglmcaaDoorOffs
import Derived.Test.YtchdmmlkgglmcaaDoorCurNew
import Derived.Test.YtchdmmlkgglmcaaDoorMarkBox
namespace Go.Proofs.YtchdmmlkgglmcaaDoor.Tx
open Go.RowKit

/-- A list argument's block lies below B: what is written from B on leaves it. -/

theorem cell_on {w w' : World} {p : Addr} {v : Value} (h : w.cell? p = some v) (b : Below w.heap.size w w') : w'.cell? p = some v := (b.cell (World.block_lt_of_cell? w p h)).trans h
theorem cell_off {w w' : World} {g : Nat} {p : Addr} {v : Value} (h : w.cell? p = some v) (k : w.grownBy w' (some g)) (hne : p.block ≠ g) : w'.cell? p = some v :=
  (World.cell?_of_block (w := w) (k.block p.block (World.block_lt_of_cell? w p h) (by intro e; exact hne (Option.some.inj e)))).trans h
theorem Filled.on {w w' : World} {g : Nat} {f : Nat → Value} {a : Nat} (h : Filled w g f a) (b : Below w.heap.size w w') : Filled w' g f a := fun t ht => cell_on (h t ht) b
theorem Filled.off {w w' : World} {g g' : Nat} {f : Nat → Value} {a : Nat} (h : Filled w g f a) (k : w.grownBy w' (some g')) (hne : g ≠ g') : Filled w' g f a := fun t ht => cell_off (h t ht) k hne
theorem Marked.on {w w' : World} {g k m : Nat} (h : Marked w g k m) (b : Below w.heap.size w w') : Marked w' g k m := fun t ht => cell_on (h t ht) b
theorem Marked.off {w w' : World} {g g' k m : Nat} (h : Marked w g k m) (q : w.grownBy w' (some g')) (hne : g ≠ g') : Marked w' g k m := fun t ht => cell_off (h t ht) q hne
theorem MadeG.there {w : World} {B : Nat} {e : TypeId} {sz n : Nat} {vs : List Value} {gb cb : Nat} (h : MadeG w B e sz n vs gb cb) : There w gb 0 (n * sz) := fun t _ ht => h.room t ht

end Go.Proofs.YtchdmmlkgglmcaaDoor.Tx

/-
  Facts carried over a world that moves on: lists of strings and of boxes, blocks. Nothing of the program is named here. No conditions.
-/
import Derived.Test.YtchdmmlkgglmcaaGreatDoorOwn
import Derived.Test.YtchdmmlkgglmcaaGreatDoorOffs
import Derived.Test.YtchdmmlkgglmcaaGreatDoorCurNew
namespace Go.Proofs.YtchdmmlkgglmcaaGreatDoor.Tx
open Go.RowKit

/-- A list argument's block lies below B: what is written from B on leaves it. -/

theorem cell_on {w w' : World} {p : Addr} {v : Value} (h : w.cell? p = some v) (b : Below w.heap.size w w') : w'.cell? p = some v := (b.cell (World.block_lt_of_cell? w p h)).trans h
theorem cell_off {w w' : World} {g : Nat} {p : Addr} {v : Value} (h : w.cell? p = some v) (k : w.grownBy w' (some g)) (hne : p.block ≠ g) : w'.cell? p = some v :=
  (World.cell?_of_block (w := w) (k.block p.block (World.block_lt_of_cell? w p h) (by intro e; exact hne (Option.some.inj e)))).trans h

end Go.Proofs.YtchdmmlkgglmcaaGreatDoor.Tx

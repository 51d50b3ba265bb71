/-
  Facts carried over a world that moves on: lists of strings and of boxes, blocks. Nothing of the program is named here. No conditions.
-/
import Derived.Test.YtdpdbidjbidmaaaOwn
import Derived.Test.YtdpdbidjbidmaaaCurNew
namespace Go.Proofs.Ytdpdbidjbidmaaa.Tx
open Go.RowKit

theorem blk_off {w w' : World} {g i : Nat} {x : Obj} (h : w.grownBy w' (some g)) (hb : w.heap[i]? = some x) (hne : i ≠ g) : w'.heap[i]? = some x := (h.block i (blk_in hb) (by intro e; exact hne (Option.some.inj e))).trans hb
theorem below_off {w w' : World} {B g : Nat} {a : World} (h : Below B a w) (k : w.grownBy w' (some g)) (hg : B ≤ g ∧ B ≤ w.heap.size) : Below B a w' := h.grown k hg.2 (fun _ e => by injection e with e; omega)
/-- A list argument's block lies below B: what is written from B on leaves it. -/

theorem cell_on {w w' : World} {p : Addr} {v : Value} (h : w.cell? p = some v) (b : Below w.heap.size w w') : w'.cell? p = some v := (b.cell (World.block_lt_of_cell? w p h)).trans h
theorem cell_off {w w' : World} {g : Nat} {p : Addr} {v : Value} (h : w.cell? p = some v) (k : w.grownBy w' (some g)) (hne : p.block ≠ g) : w'.cell? p = some v :=
  (World.cell?_of_block (w := w) (k.block p.block (World.block_lt_of_cell? w p h) (by intro e; exact hne (Option.some.inj e)))).trans h

end Go.Proofs.Ytdpdbidjbidmaaa.Tx

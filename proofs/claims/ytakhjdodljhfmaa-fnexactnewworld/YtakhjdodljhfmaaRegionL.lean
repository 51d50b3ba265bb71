/-
  A region that draws its order, whose own operations only read and whose callees leave what lay as it was (they may make memory): one walk in the text's order serves every order. From the library's quiet walk over a class of worlds. No conditions.
-/
import Derived.WalkKit
import Derived.BigQuiet
import Derived.Deep.QuietTactic
import Derived.Lib.Hide
import Derived.Test.YtakhjdodljhfmaaLow
namespace Go.Proofs.Ytakhjdodljhfmaa.Tx
open Go.RowKit

/-- A world behind W in which what lay is as it was. -/
structure Later (W : World) where
  w : World
  bel : Below W.heap.size W w

instance (W : World) : Nonempty (Later W) := ⟨⟨W, Below.refl _ _⟩⟩

theorem wp_region_later {P : Program} {id : Nat} {Q : Exit → Act → World → Prop} {a : Act} {W wr : World} {l : List Oper} (hw : Below W.heap.size W wr) (hm : P.follows .mixedOrders = true) (hB : Region.lexB .any l.toArray = true)
    (h : wpQuiet P l.toArray (fun w' => ∃ n : Later W, w' = n.w) (fun a' => ∀ w', (∃ n : Later W, w' = n.w) → Q .normal a' w') l a) : (Code.region id l.toArray true).wp P Q a wr :=
  wp_region_quiet (C := fun w' => ∃ n : Later W, w' = n.w) hm hB ⟨⟨{ wr with drawn := wr.drawn + 1 }, ⟨hw.os, hw.tape, hw.output, hw.size, hw.block⟩⟩, rfl⟩ (by simpa using h)

theorem calls_later {P : Program} {f : FuncId} {args : Array Value} {W : World} {n : Later W} {v : Value} (h : Calls P f args n.w fun e w' => e = .returned v ∧ Below n.w.heap.size n.w w') :
    Calls P f args n.w fun e w'' => e = .returned v ∧ ∃ m : Later W, w'' = m.w :=
  h.mono fun _ w' ⟨he, hb⟩ => ⟨he, ⟨w', n.bel.trans (hb.mono n.bel.size)⟩, rfl⟩

theorem Later.block {W : World} (n : Later W) {g : Nat} {o : Obj} (h : W.heap[g]? = some o) : n.w.heap[g]? = some o := (n.bel.block g (Array.getElem?_eq_some_iff.1 h).1).trans h

end Go.Proofs.Ytakhjdodljhfmaa.Tx

/-
  Facts carried over a world that moves on: lists of strings and of boxes, blocks. Nothing of the program is named here. No conditions.
-/
import Derived.Test.YthkgidibonkfbaaOwn
import Derived.Test.YthkgidibonkfbaaCurNew
import Derived.Test.YthkgidibonkfbaaLists
import Derived.Test.YthkgidibonkfbaaBoxes
import Derived.Test.YthkgidibonkfbaaMarkBox
namespace Go.Proofs.Ythkgidibonkfbaa.Tx
open Go.RowKit

theorem Strs.on {w w' : World} {A : Option Addr} {n : Nat} {ss : List ByteArray} (h : Strs w w.heap.size A n ss) (b : Below w.heap.size w w') : Strs w' w'.heap.size A n ss := (h.below b).mono b.size
theorem blk_off {w w' : World} {g i : Nat} {x : Obj} (h : w.grownBy w' (some g)) (hb : w.heap[i]? = some x) (hne : i ≠ g) : w'.heap[i]? = some x := (h.block i (blk_in hb) (by intro e; exact hne (Option.some.inj e))).trans hb
theorem below_off {w w' : World} {B g : Nat} {a : World} (h : Below B a w) (k : w.grownBy w' (some g)) (hg : B ≤ g ∧ B ≤ w.heap.size) : Below B a w' := h.grown k hg.2 (fun _ e => by injection e with e; omega)
/-- A list argument's block lies below B: what is written from B on leaves it. -/
theorem Strs.off {w w' : World} {B g : Nat} {A : Option Addr} {n : Nat} {ss : List ByteArray} (h : Strs w B A n ss) (k : w.grownBy w' (some g)) (hg : B ≤ g ∧ B ≤ w.heap.size) : Strs w' B A n ss := h.below ((Below.refl B w).grown k hg.2 (fun _ e => by injection e with e; omega))
theorem Bxs.mono {w : World} {B B' : Nat} {A : Option Addr} {n : Nat} {bs : List BoxV} (h : Bxs w B A n bs) (hB : B ≤ B') : Bxs w B' A n bs :=
  ⟨h.1, fun hn => by
    obtain ⟨b, off, rfl, hlt, hc⟩ := h.2 hn
    exact ⟨b, off, rfl, by omega, hc⟩⟩
theorem Bxs.on {w w' : World} {A : Option Addr} {n : Nat} {bs : List BoxV} (h : Bxs w w.heap.size A n bs) (b : Below w.heap.size w w') : Bxs w' w'.heap.size A n bs := (h.below b).mono b.size
theorem Bxs.off {w w' : World} {B g : Nat} {A : Option Addr} {n : Nat} {bs : List BoxV} (h : Bxs w B A n bs) (k : w.grownBy w' (some g)) (hg : B ≤ g ∧ B ≤ w.heap.size) : Bxs w' B A n bs := h.below ((Below.refl B w).grown k hg.2 (fun _ e => by injection e with e; omega))

theorem cell_on {w w' : World} {p : Addr} {v : Value} (h : w.cell? p = some v) (b : Below w.heap.size w w') : w'.cell? p = some v := (b.cell (World.block_lt_of_cell? w p h)).trans h
theorem cell_off {w w' : World} {g : Nat} {p : Addr} {v : Value} (h : w.cell? p = some v) (k : w.grownBy w' (some g)) (hne : p.block ≠ g) : w'.cell? p = some v :=
  (World.cell?_of_block (w := w) (k.block p.block (World.block_lt_of_cell? w p h) (by intro e; exact hne (Option.some.inj e)))).trans h
theorem Filled.on {w w' : World} {g : Nat} {f : Nat → Value} {a : Nat} (h : Filled w g f a) (b : Below w.heap.size w w') : Filled w' g f a := fun t ht => cell_on (h t ht) b
theorem Filled.off {w w' : World} {g g' : Nat} {f : Nat → Value} {a : Nat} (h : Filled w g f a) (k : w.grownBy w' (some g')) (hne : g ≠ g') : Filled w' g f a := fun t ht => cell_off (h t ht) k hne
theorem Marked.on {w w' : World} {g k m : Nat} (h : Marked w g k m) (b : Below w.heap.size w w') : Marked w' g k m := fun t ht => cell_on (h t ht) b
theorem Marked.off {w w' : World} {g g' k m : Nat} (h : Marked w g k m) (q : w.grownBy w' (some g')) (hne : g ≠ g') : Marked w' g k m := fun t ht => cell_off (h t ht) q hne
theorem MadeG.there {w : World} {B : Nat} {e : TypeId} {sz n : Nat} {vs : List Value} {gb cb : Nat} (h : MadeG w B e sz n vs gb cb) : There w gb 0 (n * sz) := fun t _ ht => h.room t ht
/-- A copy that toStringS made, as a slice of the call's own. -/
theorem Copied.made {w w' : World} {n : Nat} {ss : List ByteArray} (h : Copied w n ss w') (hl : ss.length = n) (hm : n ≤ 1048576) : MadeG w' w.heap.size 9 1 ss.length (ss.map Value.string) w.heap.size n := by
  subst hl
  obtain ⟨c, hb, hc, hf⟩ := h.row
  refine ⟨⟨by simp, .inr ⟨w.heap.size, ss.length, c, rfl, Nat.le_refl _, hb, Nat.le_refl _, by unfold maxLen; omega, by omega, ?_⟩⟩⟩
  rw [Nat.mul_one, List.take_of_length_le (by simp; omega)]
  refine List.ext_getElem? fun i => ?_
  rw [List.getElem?_map, Array.getElem?_toList]
  by_cases hi : i < ss.length
  · rw [hf i hi]; simp [List.getElem?_eq_getElem hi]
  · rw [List.getElem?_eq_none (by omega), Array.getElem?_eq_none (by omega)]; rfl

end Go.Proofs.Ythkgidibonkfbaa.Tx

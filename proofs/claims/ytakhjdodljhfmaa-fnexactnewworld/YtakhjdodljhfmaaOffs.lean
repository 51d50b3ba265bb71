/-
  A block, and what lies below a bound, behind a callee that changes one block alone. No conditions.
-/
import Derived.WalkKit
import Derived.Below
import Derived.Test.YtakhjdodljhfmaaBlk
import Derived.Test.YtakhjdodljhfmaaCur
namespace Go.Proofs.Ytakhjdodljhfmaa.Tx
open Go.RowKit

theorem blk_off {w w' : World} {g i : Nat} {x : Obj} (h : w.grownBy w' (some g)) (hb : w.heap[i]? = some x) (hne : i ≠ g) : w'.heap[i]? = some x := (h.block i (blk_in hb) (by intro e; exact hne (Option.some.inj e))).trans hb
theorem below_off {w w' : World} {B g : Nat} {a : World} (h : Below B a w) (k : w.grownBy w' (some g)) (hg : B ≤ g ∧ B ≤ w.heap.size) : Below B a w' := h.grown k hg.2 (fun _ e => by injection e with e; omega)
theorem only_from {a b c : World} {row : Option Nat} {B : Nat} (h : a.grownBy b row) (k : Below B b c) (hB : a.heap.size ≤ B) : a.grownBy c row :=
  ⟨k.os.trans h.os, k.tape.trans h.tape, k.output.trans h.output, Nat.le_trans h.size k.size, fun i hi hne => (k.block i (by omega)).trans (h.block i hi hne)⟩
theorem BytesAt.below {w w' : World} {B : Nat} {A : Option Addr} {n : Nat} (h : BytesAt w B A n) (k : Below B w w') : BytesAt w' B A n := fun hn => by
  obtain ⟨b, off, e, hlt, hc⟩ := h hn
  exact ⟨b, off, e, hlt, fun j hj => by
    obtain ⟨x, h0, h1, hx⟩ := hc j hj
    exact ⟨x, h0, h1, (k.cell (p := ⟨b, off + j, none⟩) hlt).trans hx⟩⟩
theorem BytesAt.up {w : World} {B B' : Nat} {A : Option Addr} {n : Nat} (h : BytesAt w B A n) (hB : B ≤ B') : BytesAt w B' A n := fun hn => by
  obtain ⟨b, off, e, hlt, hc⟩ := h hn
  exact ⟨b, off, e, by omega, hc⟩
theorem setAll_size {g : Nat} : ∀ (vs : List Value) (k : Nat) (w : World), (setAll w g k vs).heap.size = w.heap.size
  | [], _, _ => rfl
  | v :: r, k, w => (setAll_size r (k + 1) _).trans (by simp [World.setCell])

end Go.Proofs.Ytakhjdodljhfmaa.Tx

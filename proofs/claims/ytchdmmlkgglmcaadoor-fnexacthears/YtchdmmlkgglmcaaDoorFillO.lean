/-
  What is written into a list that a call made, or nil. Nothing of the program is named here. No conditions.
-/
import Derived.Test.YtchdmmlkgglmcaaDoorOutE
namespace Go.Proofs.YtchdmmlkgglmcaaDoor.Tx
open Go.RowKit

section
variable {α : Type} [Cells α] {w w' : World} {base n cap : Nat} {T : TypeId} {A : Option Addr} {l : List α}
theorem OutE.form (h : OutE w base T A n cap l) : (A = none ∧ n = 0) ∨ ∃ g, A = some ⟨g, 0, none⟩ ∧ g < w.heap.size ∧ There w g 0 (n * Cells.sz α) := by
  rcases h with ⟨rfl, rfl, _⟩ | ⟨g, rfl, rfl, m⟩
  · exact .inl ⟨rfl, rfl⟩
  · exact .inr ⟨g, rfl, m.base.2, made_there m⟩
/-- What is written into such a list. -/
def FillO (w : World) (A : Option Addr) (n m : Nat) (f : Nat → Value) : Prop := (A = none ∧ n = 0) ∨ ∃ g, A = some ⟨g, 0, none⟩ ∧ g < w.heap.size ∧ Filled w g f m
theorem FillO.heap {n m : Nat} {f : Nat → Value} (h : FillO w A n m f) (hs : w.heap.size ≤ w'.heap.size) (he : ∀ k, blkA A = some k → w'.heap[k]? = w.heap[k]?) : FillO w' A n m f := by
  rcases h with h | ⟨g, rfl, hg, hf⟩
  · exact .inl h
  · exact .inr ⟨g, rfl, by omega, fun t ht => (World.cell?_of_block (w := w) (a := ⟨g, t, none⟩) (he g rfl)).trans (hf t ht)⟩
theorem FillO.lt {n m : Nat} {f : Nat → Value} (h : FillO w A n m f) {k : Nat} (e : blkA A = some k) : k < w.heap.size := by
  rcases h with ⟨rfl, _⟩ | ⟨g, rfl, hg, _⟩
  · cases e
  · obtain rfl := Option.some.inj e
    exact hg
theorem FillO.on {n m : Nat} {f : Nat → Value} (h : FillO w A n m f) (b : Below w.heap.size w w') : FillO w' A n m f := h.heap b.size fun k e => b.block k (h.lt e)
end

end Go.Proofs.YtchdmmlkgglmcaaDoor.Tx

/-
  Lists of flat structs: copied into new memory. No conditions.
-/
import Derived.Test.YtakhjdodljhfmaaElts
import Derived.Test.YtakhjdodljhfmaaMarkBox
namespace Go.Proofs.Ytakhjdodljhfmaa.Tx
open Go.RowKit

theorem There.setCell {w : World} {g a b k : Nat} (h : There w g a b) (u : Value) : There (w.setCell ⟨g, k, none⟩ u) g a b := fun t h0 h1 => by
  obtain ⟨⟨v, e⟩, e'⟩ := h t h0 h1
  refine ⟨?_, by rw [World.frozen?_setCell]; exact e'⟩
  by_cases hk : t = k
  · subst hk; exact ⟨u, World.cell?_setCell_same' _ _ _ (by rw [e]; rfl)⟩
  · exact ⟨v, by rw [World.cell?_setCell_other _ _ _ _ (fun x => hk (by have := congrArg Addr.off x; simp at this; omega))]; exact e⟩
theorem There.setAll {g a b : Nat} : ∀ (vs : List Value) (k : Nat) {w : World}, There w g a b → There (setAll w g k vs) g a b
  | [], _, _, h => h
  | v :: r, k, _, h => There.setAll r (k + 1) (h.setCell v)
section
variable {α : Type} [Cells α] {w : World} {g o k c : Nat} {a : α}
theorem At.far {vs : List Value} (h : At w g o a) (hk : o + Cells.sz α ≤ k) : At (Tx.setAll w g k vs) g o a := fun i v hv => by
  have hi : i < Cells.sz α := by rw [← Cells.len a]; exact (List.getElem?_eq_some_iff.1 hv).1
  rw [setAll_far vs k (.inr (by show o + i < k; omega))]
  exact h i v hv
theorem At.new (a : α) (hT : There w g 0 c) (hk : k + Cells.sz α ≤ c) : At (Tx.setAll w g k (Cells.cells a)) g k a := fun i v hv =>
  setAll_cell (g := g) (Cells.cells a) k (w := w) (fun i hi => by
    have hi7 : i < Cells.sz α := by rw [← Cells.len a]; exact hi
    obtain ⟨⟨v, e⟩, _⟩ := hT (k + i) (by omega) (by omega)
    rw [e]; rfl) i v hv
/-- What a copy leaves. -/
structure CopiedE (w : World) (n : Nat) (l : List α) (w' : World) : Prop where
  has : Lies w' w.heap.size 0 l
  room : There w' w.heap.size 0 (n * Cells.sz α)
  lt : w.heap.size < w'.heap.size
  bel : Below w.heap.size w w'
end
/-- What a count answers: a number that is below 0 where there are too many. -/
def SzOutE (n : Nat) (w : World) (e : Ending) (w' : World) : Prop := ∃ l : Int, e = .returned (.int .i64 l) ∧ l ≤ 1048576 ∧ (0 ≤ l → n ≤ 1048576) ∧ Below w.heap.size w w'

end Go.Proofs.Ytakhjdodljhfmaa.Tx

/-
  What l14Copy of the model answers. Condition: at most 1048576 words.
-/
import Derived.Test.YtakhjdodljhfmaaSeat4
namespace Go.Proofs.Ytakhjdodljhfmaa.Tx
open Go.RowKit

theorem EltsO.cells {α : Type} [Cells α] {w : World} {B n : Nat} {ad : Addr} {l : List α} (h : EltsO w B (some ad) n l) (hB : B ≤ w.heap.size) : ∀ j u, (l.flatMap Cells.cells)[j]? = some u → w.cell? (ad.add j) = some u := by
  rcases Nat.eq_zero_or_pos n with h0 | h0
  · have : l = [] := List.length_eq_zero_iff.1 (h.1.trans h0)
    subst this
    intro j u hu
    simp at hu
  · obtain ⟨b, off, e, hb, hc⟩ := h.2 h0
    obtain rfl := Option.some.inj e
    exact (show Lies w b off l from ⟨by omega, hc⟩).cells

end Go.Proofs.Ytakhjdodljhfmaa.Tx

/-
  What InnOk of the model answers. Conditions: at most 1048576 seats, and as many draws in the memory.
-/
import Derived.Test.YtakhjdodljhfmaaInn0
import Derived.Test.YtakhjdodljhfmaaSeat
import Derived.Test.YtakhjdodljhfmaaMem3
namespace Go.Proofs.Ytakhjdodljhfmaa.Tx
open Go.RowKit

/-- Is an inn right? -/
def seatsOkB (ss : List SeatL) : Bool := ss.all fun q => seatOkB q.s q.l.length
def innOkB (zs : List Int) (t : Int) (ss : List SeatL) : Bool := seatsOkB ss && (memB zs t && decide (ss.length ≤ 8))
theorem seats_bad {ss : List SeatL} {k : Nat} {q : SeatL} (h : ss[k]? = some q) (hb : seatOkB q.s q.l.length = false) : seatsOkB ss = false := by
  rw [seatsOkB, List.all_eq_false]
  exact ⟨q, List.mem_of_getElem? h, by rw [hb]; simp⟩
theorem seats_good {ss : List SeatL} (h : ∀ (j : Nat) (q : SeatL), ss[j]? = some q → seatOkB q.s q.l.length = true) : seatsOkB ss = true := by
  rw [seatsOkB, List.all_eq_true]
  intro q hq
  obtain ⟨j, hj, e⟩ := List.getElem_of_mem hq
  exact h j q (by rw [← e]; exact List.getElem?_eq_getElem hj)
theorem blk3 {w : World} {g : Nat} {v0 v1 v2 : Value} {t : TypeId} (h : w.heap[g]? = some (.cells #[v0, v1, v2] t (0, 0))) : (w.cell? ⟨g, 0, none⟩ = some v0 ∧ w.cell? ⟨g, 1, none⟩ = some v1 ∧ w.cell? ⟨g, 2, none⟩ = some v2) ∧ w.frozen? ⟨g, 0, none⟩ = false ∧ w.frozen? ⟨g, 1, none⟩ = false ∧ w.frozen? ⟨g, 2, none⟩ = false :=
  ⟨⟨blk_cell h 0, blk_cell h 1, blk_cell h 2⟩, blk_frozen h 0, blk_frozen h 1, blk_frozen h 2⟩
end Go.Proofs.Ytakhjdodljhfmaa.Tx

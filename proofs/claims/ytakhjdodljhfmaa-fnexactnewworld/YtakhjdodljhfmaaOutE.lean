/-
  A list that a call made, or nil. Nothing of the program is named here. No conditions.
-/
import Derived.Test.YtakhjdodljhfmaaCopyE
namespace Go.Proofs.Ytakhjdodljhfmaa.Tx
open Go.RowKit

/-- The block of an address. -/
def blkA : Option Addr → Option Nat
  | some a => some a.block
  | none => none
section
variable {α : Type} [Cells α] {w w' : World} {base n cap : Nat} {T : TypeId} {A : Option Addr} {l : List α}
def OutE (w : World) (base : Nat) (T : TypeId) (A : Option Addr) (n cap : Nat) (l : List α) : Prop :=
  (A = none ∧ n = 0 ∧ cap = 0 ∧ l = []) ∨ ∃ g, A = some ⟨g, 0, none⟩ ∧ n = l.length ∧ MadeE w base T l g cap
theorem OutE.len (h : OutE w base T A n cap l) : l.length = n := by
  rcases h with ⟨_, rfl, _, rfl⟩ | ⟨g, _, e, _⟩
  · rfl
  · exact e.symm
theorem OutE.lt (h : OutE w base T A n cap l) {k : Nat} (e : blkA A = some k) : base ≤ k ∧ k < w.heap.size := by
  rcases h with ⟨rfl, _⟩ | ⟨g, rfl, _, m⟩
  · cases e
  · obtain rfl := Option.some.inj e
    exact m.base
theorem OutE.heap (h : OutE w base T A n cap l) (he : ∀ k, blkA A = some k → w'.heap[k]? = w.heap[k]?) : OutE w' base T A n cap l := by
  rcases h with h | ⟨g, rfl, e, m⟩
  · exact .inl h
  · exact .inr ⟨g, rfl, e, MadeG.heap m (he g rfl)⟩
theorem OutE.on (h : OutE w base T A n cap l) (b : Below w.heap.size w w') : OutE w' base T A n cap l := h.heap fun k e => b.block k (h.lt e).2
theorem OutE.kept {row : Option Nat} (h : OutE w base T A n cap l) (gr : w.grownBy w' row) (hne : ∀ k, blkA A = some k → row ≠ some k) : OutE w' base T A n cap l := h.heap fun k e => gr.block k (h.lt e).2 (fun e2 => hne k e e2.symm)
theorem OutE.mono {base' : Nat} (h : OutE w base T A n cap l) (hb : base' ≤ base) : OutE w base' T A n cap l := by
  rcases h with h | ⟨g, rfl, e, m⟩
  · exact .inl h
  · exact .inr ⟨g, rfl, e, MadeG.mono m hb⟩
theorem OutE.elts (h : OutE w base T A n cap l) : EltsO w w.heap.size A n l := by
  rcases h with ⟨rfl, rfl, _, rfl⟩ | ⟨g, rfl, rfl, m⟩
  · exact ⟨rfl, fun h => absurd h (by omega)⟩
  · exact MadeG.elts m
end
theorem grown_nil {w w' : World} (b : Below w.heap.size w w') : w.grownBy w' none := ⟨b.os, b.tape, b.output, b.size, fun i hi _ => b.block i hi⟩

end Go.Proofs.Ytakhjdodljhfmaa.Tx

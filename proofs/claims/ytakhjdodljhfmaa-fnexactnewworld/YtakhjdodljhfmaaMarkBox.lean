/-
  What markBoxS and heldBoxS of the laws do: each cell of each element of a list is marked by its own number, and they are found so. Conditions: numbers from 0 to 2^62.
-/
import Derived.Test.YtakhjdodljhfmaaMark
import Derived.Test.YtakhjdodljhfmaaFlat
namespace Go.Proofs.Ytakhjdodljhfmaa.Tx
open Go.RowKit

/-- The mark of a cell of that kind. -/
def markV : FK → Nat → Value
  | .int, k => .int .i64 (k : Int)
  | .str, k => .string (markT k)
  | .bool, k => .bool ((k : Int) % 3 == 0)
/-- The marks of a row of such cells, from k on. -/
def markF (ks : List FK) (k t : Nat) : Value := markV (ks[t % ks.length]?.getD .int) (k + t)
/-- The first a cells of block g are those of f. -/
def Filled (w : World) (g : Nat) (f : Nat → Value) (a : Nat) : Prop := ∀ t, t < a → w.cell? ⟨g, t, none⟩ = some (f t)
theorem setAll_frozen {g : Nat} : ∀ (vs : List Value) (k : Nat) {w : World} (p : Addr), (setAll w g k vs).frozen? p = w.frozen? p
  | [], _, _, _ => rfl
  | v :: r, k, w, p => by rw [setAll, setAll_frozen r (k + 1) p, World.frozen?_setCell]
theorem Filled.set {w : World} {g : Nat} {f : Nat → Value} {a b : Nat} {vs : List Value} (h : Filled w g f a) (hT : There w g a b) (hl : a + vs.length ≤ b) (hv : ∀ i v, vs[i]? = some v → v = f (a + i)) :
    Filled (setAll w g a vs) g f (a + vs.length) ∧ There (setAll w g a vs) g (a + vs.length) b := by
  have hs : ∀ i, i < vs.length → (w.cell? ⟨g, a + i, none⟩).isSome = true := fun i hi => by
    obtain ⟨⟨v, e⟩, _⟩ := hT (a + i) (by omega) (by omega)
    rw [e]; rfl
  refine ⟨fun t ht => ?_, fun t h0 h1 => ?_⟩
  · by_cases hta : t < a
    · rw [setAll_far vs a (.inr hta)]; exact h t hta
    · obtain ⟨i, rfl⟩ : ∃ i, t = a + i := ⟨t - a, by omega⟩
      have hi : i < vs.length := by omega
      rw [setAll_cell vs a hs i vs[i] (List.getElem?_eq_getElem hi), hv i vs[i] (List.getElem?_eq_getElem hi)]
  · obtain ⟨⟨v, e⟩, e'⟩ := hT t (by omega) h1
    refine ⟨⟨v, ?_⟩, by rw [setAll_frozen]; exact e'⟩
    rw [← e]
    have : ∀ (vs : List Value) (k : Nat) (w : World), k + vs.length ≤ t → (setAll w g k vs).cell? ⟨g, t, none⟩ = w.cell? ⟨g, t, none⟩ := by
      intro vs
      induction vs with
      | nil => intro k w _; rfl
      | cons x r ih =>
        intro k w hk
        rw [List.length_cons] at hk
        rw [setAll, ih (k + 1) _ (by omega)]
        exact World.cell?_setCell_other _ _ _ _ (fun e' => by have := congrArg Addr.off e'; simp at this; omega)
    exact this vs a w h0
theorem Filled.below {w w' : World} {g : Nat} {f : Nat → Value} {a : Nat} (h : Filled w g f a) (hg : g < w.heap.size) (b : Below w.heap.size w w') : Filled w' g f a := fun t ht => (b.cell (p := ⟨g, t, none⟩) hg).trans (h t ht)
theorem There.below {w w' : World} {g a c : Nat} (h : There w g a c) (hg : g < w.heap.size) (b : Below w.heap.size w w') : There w' g a c := fun t h0 h1 => by
  obtain ⟨⟨v, e⟩, e'⟩ := h t h0 h1
  exact ⟨⟨v, (b.cell (p := ⟨g, t, none⟩) hg).trans e⟩, (b.frozen (p := ⟨g, t, none⟩) hg).trans e'⟩
theorem only_setRows {a : World} {g : Nat} : ∀ (vs : List Value) (k : Nat) {w : World}, a.grownBy w (some g) → a.grownBy (setAll w g k vs) (some g)
  | [], _, _, h => h
  | v :: r, k, _, h => only_setRows r (k + 1) (only_setRow h k v)

/-- A box's kinds. -/
def boxKs : List FK := [.int, .int, .int, .int, .int, .str, .bool]
theorem markBox_at (k j r : Nat) (hr : r < 7) : markF boxKs k (j * 7 + r) = markV (boxKs[r]?.getD .int) (k + (j * 7 + r)) := by
  have e : (j * 7 + r) % boxKs.length = r := by show (j * 7 + r) % 7 = r; omega
  rw [markF, e]



end Go.Proofs.Ytakhjdodljhfmaa.Tx

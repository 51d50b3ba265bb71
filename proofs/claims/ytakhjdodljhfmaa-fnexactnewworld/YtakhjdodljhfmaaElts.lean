/-
  Lists of flat structs (or numbers, or strings) in memory: what lies there, what a call made, what append gives. Nothing of the program is named here. No conditions.
-/
import Derived.Test.YtakhjdodljhfmaaOwn
import Derived.Test.YtakhjdodljhfmaaRegionO
namespace Go.Proofs.Ytakhjdodljhfmaa.Tx
open Go.RowKit

/-- Values that take so many cells. -/
class Cells (α : Type) where
  sz : Nat
  pos : 0 < sz
  cells : α → List Value
  len : ∀ a, (cells a).length = sz
  one : ∀ a v, v ∈ cells a → v.oneCell' = true
open Cells

section
variable {α : Type} [Cells α] {w w' : World} {g o b of : Nat} {a : α} {l : List α}

/-- The cells of a lie in block g from o on. -/
def At (w : World) (g o : Nat) (a : α) : Prop := ∀ i v, (cells a)[i]? = some v → w.cell? ⟨g, o + i, none⟩ = some v
/-- The list l lies in block b from off on. -/
def Lies (w : World) (b off : Nat) (l : List α) : Prop := b < w.heap.size ∧ ∀ j a, l[j]? = some a → At w b (off + j * sz α) a
theorem At.heap (h : At w g o a) (he : w'.heap[g]? = w.heap[g]?) : At w' g o a := fun i v hv => (World.cell?_of_block (w := w) (a := ⟨g, o + i, none⟩) he).trans (h i v hv)
theorem Lies.heap (h : Lies w b of l) (he : w'.heap[b]? = w.heap[b]?) (hs : w.heap.size ≤ w'.heap.size) : Lies w' b of l := ⟨Nat.lt_of_lt_of_le h.1 hs, fun j a ha => (h.2 j a ha).heap he⟩
theorem Lies.below (h : Lies w b of l) (k : Below w.heap.size w w') : Lies w' b of l := h.heap (k.block b h.1) k.size
theorem Lies.belowB {B : Nat} (h : Lies w b of l) (hb : b < B) (k : Below B w w') : Lies w' b of l := h.heap (k.block b hb) k.size
theorem Lies.off (h : Lies w b of l) (k : w.grownBy w' (some g)) (hg : b ≠ g) : Lies w' b of l := h.heap (k.block b h.1 (by intro e; exact hg (Option.some.inj e))) k.size
theorem Lies.alloc (h : Lies w b of l) (x : Obj) : Lies (w.alloc x) b of l := h.below ((Below.refl _ w).alloc (Nat.le_refl _) x)
theorem Lies.take (h : Lies w b of l) (k : Nat) : Lies w b of (l.take k) := ⟨h.1, fun j a ha => h.2 j a (by
  rw [List.getElem?_take] at ha
  split at ha
  · exact ha
  · cases ha)⟩
theorem Lies.drop (h : Lies w b of l) (k : Nat) : Lies w b (of + k * sz α) (l.drop k) := ⟨h.1, fun j a ha => by
  rw [List.getElem?_drop] at ha
  have := h.2 (k + j) a ha
  rwa [Nat.add_mul, ← Nat.add_assoc] at this⟩
theorem Lies.nil (h : b < w.heap.size) : Lies w b of ([] : List α) := ⟨h, fun j a ha => by simp at ha⟩

/-- A slice that reads as l, in a block below B; or nil. -/
def EltsO (w : World) (B : Nat) (A : Option Addr) (n : Nat) (l : List α) : Prop :=
  l.length = n ∧ (0 < n → ∃ b off, A = some ⟨b, off, none⟩ ∧ b < B ∧ ∀ j a, l[j]? = some a → At w b (off + j * sz α) a)
theorem EltsO.below {B n : Nat} {A : Option Addr} (h : EltsO w B A n l) (k : Below B w w') : EltsO w' B A n l := ⟨h.1, fun hn => by
  obtain ⟨b, off, e, hb, hc⟩ := h.2 hn
  exact ⟨b, off, e, hb, fun j a ha => (hc j a ha).heap (k.block b hb)⟩⟩
theorem EltsO.mono {B B' n : Nat} {A : Option Addr} (h : EltsO w B A n l) (hB : B ≤ B') : EltsO w B' A n l := ⟨h.1, fun hn => by
  obtain ⟨b, off, e, hb, hc⟩ := h.2 hn
  exact ⟨b, off, e, by omega, hc⟩⟩
theorem EltsO.off {B n g : Nat} {A : Option Addr} (h : EltsO w B A n l) (k : w.grownBy w' (some g)) (hg : B ≤ g ∧ B ≤ w.heap.size) : EltsO w' B A n l := h.below ((Below.refl B w).grown k hg.2 (fun _ e => by injection e with e; omega))
theorem Lies.elts (h : Lies w b of l) : EltsO w w.heap.size (some ⟨b, of, none⟩) l.length l := ⟨rfl, fun _ => ⟨b, of, rfl, h.1, h.2⟩⟩

theorem flat_len (l : List α) : (l.flatMap cells).length = l.length * sz α := by
  induction l with
  | nil => simp
  | cons x r ih => rw [List.flatMap_cons, List.length_append, ih, len, List.length_cons, Nat.succ_mul]; omega
theorem flat_at : ∀ (l : List α) (j : Nat) (a : α), l[j]? = some a → ∀ i, i < sz α → (l.flatMap cells)[j * sz α + i]? = (cells a)[i]?
  | [], _, _, h, _, _ => by simp at h
  | x :: r, 0, a, h, i, hi => by
    simp at h
    subst h
    rw [List.flatMap_cons, Nat.zero_mul, Nat.zero_add, List.getElem?_append_left (by rw [len]; exact hi)]
  | x :: r, j + 1, a, h, i, hi => by
    rw [List.flatMap_cons, List.getElem?_append_right (by rw [len, Nat.succ_mul]; omega), len, show (j + 1) * sz α + i - sz α = j * sz α + i by rw [Nat.succ_mul]; omega]
    exact flat_at r j a (by simpa using h) i hi
theorem flat_one : ∀ u ∈ l.flatMap cells, u.oneCell' = true := fun u hu => by
  obtain ⟨x, _, hx⟩ := List.mem_flatMap.1 hu
  exact one x u hx
/-- The cells one behind the other. -/
theorem Lies.cells (h : Lies w b of l) : ∀ j u, (l.flatMap cells)[j]? = some u → w.cell? ((⟨b, of, none⟩ : Addr).add j) = some u := fun j u hu => by
  have hj : j < (l.flatMap Cells.cells).length := (List.getElem?_eq_some_iff.1 hu).1
  rw [flat_len] at hj
  have hp := pos (α := α)
  have hd : j / sz α < l.length := Nat.div_lt_of_lt_mul (by rw [Nat.mul_comm]; exact hj)
  have hm : j % sz α < sz α := Nat.mod_lt _ hp
  have e : j / sz α * sz α + j % sz α = j := by rw [Nat.mul_comm]; exact Nat.div_add_mod j (sz α)
  have hl : l[j / sz α]? = some l[j / sz α] := List.getElem?_eq_getElem hd
  have h1 := flat_at l (j / sz α) _ hl (j % sz α) hm
  rw [e, hu] at h1
  have h2 := h.2 _ _ hl (j % sz α) u h1.symm
  rw [Go.WideShapes.add_plain]
  rwa [Nat.add_assoc, e] at h2

/-- A list that the call made, in block gb (from base on). -/
abbrev MadeE (w : World) (base : Nat) (T : TypeId) (l : List α) (gb cb : Nat) : Prop := MadeG w base T (sz α) l.length (l.flatMap Cells.cells) gb cb
theorem MadeG.lies {T : TypeId} {base gb cb : Nat} (h : MadeE w base T l gb cb) : Lies w gb 0 l := ⟨h.base.2, fun j a ha i v hv => by
  have hi : i < sz α := by rw [← Cells.len a]; exact (List.getElem?_eq_some_iff.1 hv).1
  rw [Nat.zero_add]
  exact h.cell ((flat_at l j a ha i hi).trans hv)⟩
/-- Behind an append onto a slice that is not nil. -/
theorem made_app {T : TypeId} {base n m gb cb : Nat} {v : Value} {l2 : List α} (h : w.ownsRow base T (sz α) v (n + m) (l.flatMap Cells.cells ++ l2.flatMap Cells.cells)) (hn : n = l.length) (hm : m = l2.length) (hi : v = .slice none 0 0 ↔ Value.slice (some ⟨gb, 0, none⟩) n cb = .slice none 0 0 ∧ m = 0) :
    ∃ gb' cb', v = .slice (some ⟨gb', 0, none⟩) (l ++ l2).length cb' ∧ MadeE w base T (l ++ l2) gb' cb' := by
  subst hn hm
  have e1 : (l ++ l2).flatMap Cells.cells = l.flatMap Cells.cells ++ l2.flatMap Cells.cells := List.flatMap_append
  rcases h.2 with ⟨e, _⟩ | ⟨g, cap, cur, e, _⟩
  · have := (hi.1 e).1; cases this
  · refine ⟨g, cap, by rw [List.length_append]; exact e, ⟨?_⟩⟩
    rw [e1, List.length_append]
    exact e ▸ h
end

/-- Numbers and strings. -/
instance : Cells Int := ⟨1, by decide, fun n => [.int .i64 n], fun _ => rfl, fun a v hv => by simp at hv; subst hv; rfl⟩
instance : Cells ByteArray := ⟨1, by decide, fun s => [.string s], fun _ => rfl, fun a v hv => by simp at hv; subst hv; rfl⟩

end Go.Proofs.Ytakhjdodljhfmaa.Tx

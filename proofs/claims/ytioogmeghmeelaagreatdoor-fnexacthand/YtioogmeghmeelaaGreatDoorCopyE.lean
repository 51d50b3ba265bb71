/-
  A block, and what lies below a bound, behind a callee that changes one block alone. No conditions.
  What the model's l1New leaves: a new cursor at the beginning of the code; nothing that lay is written. Condition: the code has at most 4096 bytes.
  Lists of flat structs: copied into new memory. No conditions.
  Facts carried over a world that moves on: lists of strings and of boxes, blocks. Nothing of the program is named here. No conditions.
  A copy of a list of flat structs, as facts that are carried along. No conditions.
-/
import Derived.WalkKit
import Derived.Below
import Derived.Test.YtioogmeghmeelaaGreatDoorBlk
import Derived.Test.YtioogmeghmeelaaGreatDoorCur
import Derived.Test.YtioogmeghmeelaaGreatDoorElts
import Derived.Test.YtioogmeghmeelaaGreatDoorMarkBox
import Derived.Test.YtioogmeghmeelaaGreatDoorOwn
namespace Go.Proofs.YtioogmeghmeelaaGreatDoor.Tx
open Go.RowKit

theorem blk_off {w w' : World} {g i : Nat} {x : Obj} (h : w.grownBy w' (some g)) (hb : w.heap[i]? = some x) (hne : i ≠ g) : w'.heap[i]? = some x := (h.block i (blk_in hb) (by intro e; exact hne (Option.some.inj e))).trans hb
theorem below_off {w w' : World} {B g : Nat} {a : World} (h : Below B a w) (k : w.grownBy w' (some g)) (hg : B ≤ g ∧ B ≤ w.heap.size) : Below B a w' := h.grown k hg.2 (fun _ e => by injection e with e; omega)
theorem only_from {a b c : World} {row : Option Nat} {B : Nat} (h : a.grownBy b row) (k : Below B b c) (hB : a.heap.size ≤ B) : a.grownBy c row :=
  ⟨k.os.trans h.os, k.tape.trans h.tape, k.output.trans h.output, Nat.le_trans h.size k.size, fun i hi hne => (k.block i (by omega)).trans (h.block i hi hne)⟩
theorem BytesAt.below {w w' : World} {B : Nat} {A : Option Addr} {n : Nat} (h : BytesAt w B A n) (k : Below B w w') : BytesAt w' B A n := fun hn => by
  obtain ⟨b, off, e, hlt, hc⟩ := h hn
  exact ⟨b, off, e, hlt, fun j hj => by
    obtain ⟨x, h0, h1, hx⟩ := hc j hj
    exact ⟨x, h0, h1, (k.cell (p := ⟨b, off + j, none⟩) hlt).trans hx⟩⟩
theorem BytesAt.up {w : World} {B B' : Nat} {A : Option Addr} {n : Nat} (h : BytesAt w B A n) (hB : B ≤ B') : BytesAt w B' A n := fun hn => by
  obtain ⟨b, off, e, hlt, hc⟩ := h hn
  exact ⟨b, off, e, by omega, hc⟩
theorem setAll_size {g : Nat} : ∀ (vs : List Value) (k : Nat) (w : World), (setAll w g k vs).heap.size = w.heap.size
  | [], _, _ => rfl
  | v :: r, k, w => (setAll_size r (k + 1) _).trans (by simp [World.setCell])

end Go.Proofs.YtioogmeghmeelaaGreatDoor.Tx
namespace Go.Proofs.YtioogmeghmeelaaGreatDoor.Tx
open Go.RowKit

theorem and30 (x : Int) : 0 ≤ bits .and .i64 x 1073741823 ∧ bits .and .i64 x 1073741823 ≤ 1073741823 := by
  have h : bits .and .i64 x 1073741823 = IntKind.i64.wrap ((BitVec.ofInt 64 x &&& BitVec.ofInt 64 1073741823).toNat : Int) := rfl
  rw [h, BitVec.toNat_and, IntKind.wrap_i64]
  have : (BitVec.ofInt 64 x).toNat &&& (BitVec.ofInt 64 1073741823).toNat ≤ (BitVec.ofInt 64 1073741823).toNat := Nat.and_le_right
  have e : (BitVec.ofInt 64 1073741823).toNat = 1073741823 := by decide
  rw [e] at this ⊢
  omega

theorem BytesAt.alloc {w : World} {A : Option Addr} {n : Nat} (h : BytesAt w w.heap.size A n) (o : Obj) : BytesAt (w.alloc o) w.heap.size A n := fun hn => by
  obtain ⟨b, off, e, hb, hc⟩ := h hn
  exact ⟨b, off, e, hb, fun j hj => by
    obtain ⟨x, h0, h1, hx⟩ := hc j hj
    exact ⟨x, h0, h1, (World.cell?_alloc_lt w o ⟨b, off + j, none⟩ hb).trans hx⟩⟩
theorem BytesAt.kept {w w' : World} {A : Option Addr} {n : Nat} (h : BytesAt w w.heap.size A n) (k : Below w.heap.size w w') : BytesAt w' w'.heap.size A n := fun hn => by
  obtain ⟨b, off, e, hb, hc⟩ := h hn
  exact ⟨b, off, e, Nat.lt_of_lt_of_le hb k.size, fun j hj => by
    obtain ⟨x, h0, h1, hx⟩ := hc j hj
    exact ⟨x, h0, h1, (k.cell (p := ⟨b, off + j, none⟩) hb).trans hx⟩⟩

theorem alloc_kept {w w1 : World} {o : Obj} {g : Nat} (b : (w.alloc o).grownBy w1 (some g)) (hg : g < w.heap.size) : w1.heap[w.heap.size]? = some o :=
  (b.block w.heap.size (by simp) (by intro e; injection e with e; omega)).trans (heap_alloc_new w o)
theorem only_own {a b c : World} {g gb : Nat} (h : a.grownBy b (some g)) (k : b.grownBy c (some gb)) (hgb : a.heap.size ≤ gb) : a.grownBy c (some g) :=
  ⟨k.os.trans h.os, k.tape.trans h.tape, k.output.trans h.output, Nat.le_trans h.size k.size, fun i hi hne => (k.block i (Nat.lt_of_lt_of_le hi h.size) (by intro e; injection e with e; omega)).trans (h.block i hi hne)⟩
end Go.Proofs.YtioogmeghmeelaaGreatDoor.Tx
namespace Go.Proofs.YtioogmeghmeelaaGreatDoor.Tx
open Go.RowKit

theorem There.setCell {w : World} {g a b k : Nat} (h : There w g a b) (u : Value) : There (w.setCell ⟨g, k, none⟩ u) g a b := fun t h0 h1 => by
  obtain ⟨⟨v, e⟩, e'⟩ := h t h0 h1
  refine ⟨?_, by rw [World.frozen?_setCell]; exact e'⟩
  by_cases hk : t = k
  · subst hk; exact ⟨u, World.cell?_setCell_same' _ _ _ (by rw [e]; rfl)⟩
  · exact ⟨v, by rw [World.cell?_setCell_other _ _ _ _ (fun x => hk (by have := congrArg Addr.off x; simp at this; omega))]; exact e⟩
theorem There.setAll {g a b : Nat} : ∀ (vs : List Value) (k : Nat) {w : World}, There w g a b → There (setAll w g k vs) g a b
  | [], _, _, h => h
  | v :: r, k, _, h => There.setAll r (k + 1) (h.setCell v)
section
variable {α : Type} [Cells α] {w : World} {g o k c : Nat} {a : α}
theorem At.far {vs : List Value} (h : At w g o a) (hk : o + Cells.sz α ≤ k) : At (Tx.setAll w g k vs) g o a := fun i v hv => by
  have hi : i < Cells.sz α := by rw [← Cells.len a]; exact (List.getElem?_eq_some_iff.1 hv).1
  rw [setAll_far vs k (.inr (by show o + i < k; omega))]
  exact h i v hv
theorem At.new (a : α) (hT : There w g 0 c) (hk : k + Cells.sz α ≤ c) : At (Tx.setAll w g k (Cells.cells a)) g k a := fun i v hv =>
  setAll_cell (g := g) (Cells.cells a) k (w := w) (fun i hi => by
    have hi7 : i < Cells.sz α := by rw [← Cells.len a]; exact hi
    obtain ⟨⟨v, e⟩, _⟩ := hT (k + i) (by omega) (by omega)
    rw [e]; rfl) i v hv
/-- What a copy leaves. -/
structure CopiedE (w : World) (n : Nat) (l : List α) (w' : World) : Prop where
  has : Lies w' w.heap.size 0 l
  room : There w' w.heap.size 0 (n * Cells.sz α)
  lt : w.heap.size < w'.heap.size
  bel : Below w.heap.size w w'
end
/-- What a count answers: a number that is below 0 where there are too many. -/
def SzOutE (n : Nat) (w : World) (e : Ending) (w' : World) : Prop := ∃ l : Int, e = .returned (.int .i64 l) ∧ l ≤ 1048576 ∧ (0 ≤ l → n ≤ 1048576) ∧ Below w.heap.size w w'

end Go.Proofs.YtioogmeghmeelaaGreatDoor.Tx
namespace Go.Proofs.YtioogmeghmeelaaGreatDoor.Tx
open Go.RowKit

/-- A list argument's block lies below B: what is written from B on leaves it. -/

theorem cell_on {w w' : World} {p : Addr} {v : Value} (h : w.cell? p = some v) (b : Below w.heap.size w w') : w'.cell? p = some v := (b.cell (World.block_lt_of_cell? w p h)).trans h
theorem cell_off {w w' : World} {g : Nat} {p : Addr} {v : Value} (h : w.cell? p = some v) (k : w.grownBy w' (some g)) (hne : p.block ≠ g) : w'.cell? p = some v :=
  (World.cell?_of_block (w := w) (k.block p.block (World.block_lt_of_cell? w p h) (by intro e; exact hne (Option.some.inj e)))).trans h
theorem Filled.on {w w' : World} {g : Nat} {f : Nat → Value} {a : Nat} (h : Filled w g f a) (b : Below w.heap.size w w') : Filled w' g f a := fun t ht => cell_on (h t ht) b
theorem Filled.off {w w' : World} {g g' : Nat} {f : Nat → Value} {a : Nat} (h : Filled w g f a) (k : w.grownBy w' (some g')) (hne : g ≠ g') : Filled w' g f a := fun t ht => cell_off (h t ht) k hne
theorem Marked.on {w w' : World} {g k m : Nat} (h : Marked w g k m) (b : Below w.heap.size w w') : Marked w' g k m := fun t ht => cell_on (h t ht) b
theorem Marked.off {w w' : World} {g g' k m : Nat} (h : Marked w g k m) (q : w.grownBy w' (some g')) (hne : g ≠ g') : Marked w' g k m := fun t ht => cell_off (h t ht) q hne
theorem MadeG.there {w : World} {B : Nat} {e : TypeId} {sz n : Nat} {vs : List Value} {gb cb : Nat} (h : MadeG w B e sz n vs gb cb) : There w gb 0 (n * sz) := fun t _ ht => h.room t ht

end Go.Proofs.YtioogmeghmeelaaGreatDoor.Tx
namespace Go.Proofs.YtioogmeghmeelaaGreatDoor.Tx
open Go.RowKit

section
variable {α : Type} [Cells α] {w w' : World} {g n : Nat} {l : List α}
/-- The list l lies in block g, and may be written. -/
structure CopyE (w : World) (g n : Nat) (l : List α) : Prop where
  lies : Lies w g 0 l
  room : There w g 0 (n * Cells.sz α)
theorem CopyE.on (h : CopyE w g n l) (k : Below w.heap.size w w') : CopyE w' g n l := ⟨h.lies.below k, h.room.below h.lies.1 k⟩
theorem CopyE.below (h : CopyE w g n l) (k : Below w.heap.size w w') : CopyE w' g n l := h.on k
theorem CopiedE.at (h : CopiedE w n l w') : CopyE w' w.heap.size n l := ⟨h.has, h.room⟩
theorem CopyE.elts (h : CopyE w g n l) (hl : l.length = n) : EltsO w w.heap.size (some ⟨g, 0, none⟩) n l := by
  subst hl
  exact h.lies.elts
theorem MadeG.elts {base cb : Nat} {T : TypeId} (h : MadeE w base T l g cb) : EltsO w w.heap.size (some ⟨g, 0, none⟩) l.length l := h.lies.elts
end
/-- Its cells are there, and may be written. -/
theorem made_there {w : World} {B : Nat} {e : TypeId} {sz n : Nat} {vs : List Value} {gb cb : Nat} (h : MadeG w B e sz n vs gb cb) : There w gb 0 (n * sz) := fun t _ ht => h.room t ht

end Go.Proofs.YtioogmeghmeelaaGreatDoor.Tx

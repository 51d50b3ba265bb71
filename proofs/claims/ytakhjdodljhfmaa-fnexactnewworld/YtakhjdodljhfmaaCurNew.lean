/-
  What the model's l1New leaves: a new cursor at the beginning of the code; nothing that lay is written. Condition: the code has at most 4096 bytes.
-/
import Derived.Test.YtakhjdodljhfmaaCur
namespace Go.Proofs.Ytakhjdodljhfmaa.Tx
open Go.RowKit

theorem and30 (x : Int) : 0 ≤ bits .and .i64 x 1073741823 ∧ bits .and .i64 x 1073741823 ≤ 1073741823 := by
  have h : bits .and .i64 x 1073741823 = IntKind.i64.wrap ((BitVec.ofInt 64 x &&& BitVec.ofInt 64 1073741823).toNat : Int) := rfl
  rw [h, BitVec.toNat_and, IntKind.wrap_i64]
  have : (BitVec.ofInt 64 x).toNat &&& (BitVec.ofInt 64 1073741823).toNat ≤ (BitVec.ofInt 64 1073741823).toNat := Nat.and_le_right
  have e : (BitVec.ofInt 64 1073741823).toNat = 1073741823 := by decide
  rw [e] at this ⊢
  omega

theorem BytesAt.alloc {w : World} {A : Option Addr} {n : Nat} (h : BytesAt w w.heap.size A n) (o : Obj) : BytesAt (w.alloc o) w.heap.size A n := fun hn => by
  obtain ⟨b, off, e, hb, hc⟩ := h hn
  exact ⟨b, off, e, hb, fun j hj => by
    obtain ⟨x, h0, h1, hx⟩ := hc j hj
    exact ⟨x, h0, h1, (World.cell?_alloc_lt w o ⟨b, off + j, none⟩ hb).trans hx⟩⟩
theorem BytesAt.kept {w w' : World} {A : Option Addr} {n : Nat} (h : BytesAt w w.heap.size A n) (k : Below w.heap.size w w') : BytesAt w' w'.heap.size A n := fun hn => by
  obtain ⟨b, off, e, hb, hc⟩ := h hn
  exact ⟨b, off, e, Nat.lt_of_lt_of_le hb k.size, fun j hj => by
    obtain ⟨x, h0, h1, hx⟩ := hc j hj
    exact ⟨x, h0, h1, (k.cell (p := ⟨b, off + j, none⟩) hb).trans hx⟩⟩

theorem alloc_kept {w w1 : World} {o : Obj} {g : Nat} (b : (w.alloc o).grownBy w1 (some g)) (hg : g < w.heap.size) : w1.heap[w.heap.size]? = some o :=
  (b.block w.heap.size (by simp) (by intro e; injection e with e; omega)).trans (heap_alloc_new w o)
theorem only_own {a b c : World} {g gb : Nat} (h : a.grownBy b (some g)) (k : b.grownBy c (some gb)) (hgb : a.heap.size ≤ gb) : a.grownBy c (some g) :=
  ⟨k.os.trans h.os, k.tape.trans h.tape, k.output.trans h.output, Nat.le_trans h.size k.size, fun i hi hne => (k.block i (Nat.lt_of_lt_of_le hi h.size) (by intro e; injection e with e; omega)).trans (h.block i hi hne)⟩
end Go.Proofs.Ytakhjdodljhfmaa.Tx

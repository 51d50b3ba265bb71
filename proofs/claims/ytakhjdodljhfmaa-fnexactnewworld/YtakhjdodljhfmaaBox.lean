/-
  What the functions of chapter 4 of the model answer, and what toBox, szBox and eqBox of the laws do. Condition: a box's text has at most 2^63 - 1 bytes.
-/
import Derived.Test.YtakhjdodljhfmaaBlk
import Derived.Test.YtakhjdodljhfmaaKey
import Derived.Test.YtakhjdodljhfmaaBox0
namespace Go.Proofs.Ytakhjdodljhfmaa.Tx
open Go.RowKit

theorem blk7 {w : World} {g : Nat} {v0 v1 v2 v3 v4 v5 v6 : Value} {t : TypeId} (h : w.heap[g]? = some (.cells #[v0, v1, v2, v3, v4, v5, v6] t (0, 0))) :
    (w.cell? ⟨g, 0, none⟩ = some v0 ∧ w.cell? ⟨g, 1, none⟩ = some v1 ∧ w.cell? ⟨g, 2, none⟩ = some v2 ∧ w.cell? ⟨g, 3, none⟩ = some v3 ∧ w.cell? ⟨g, 4, none⟩ = some v4 ∧ w.cell? ⟨g, 5, none⟩ = some v5 ∧ w.cell? ⟨g, 6, none⟩ = some v6) ∧
    (w.frozen? ⟨g, 0, none⟩ = false ∧ w.frozen? ⟨g, 1, none⟩ = false ∧ w.frozen? ⟨g, 2, none⟩ = false ∧ w.frozen? ⟨g, 3, none⟩ = false ∧ w.frozen? ⟨g, 4, none⟩ = false ∧ w.frozen? ⟨g, 5, none⟩ = false ∧ w.frozen? ⟨g, 6, none⟩ = false) :=
  ⟨⟨blk_cell h 0, blk_cell h 1, blk_cell h 2, blk_cell h 3, blk_cell h 4, blk_cell h 5, blk_cell h 6⟩, blk_frozen h 0, blk_frozen h 1, blk_frozen h 2, blk_frozen h 3, blk_frozen h 4, blk_frozen h 5, blk_frozen h 6⟩


theorem heap3a (w : World) (o o' o'' : Obj) : (((w.alloc o).alloc o').alloc o'').heap[w.heap.size]? = some o := alloc_blk (heap2a w o o')
theorem heap3b (w : World) (o o' o'' : Obj) : (((w.alloc o).alloc o').alloc o'').heap[w.heap.size + 1]? = some o' := alloc_blk (heap2b w o o')
theorem heap3c (w : World) (o o' o'' : Obj) : (((w.alloc o).alloc o').alloc o'').heap[w.heap.size + 2]? = some o'' := by have := heap_alloc_new ((w.alloc o).alloc o') o''; rwa [World.size_alloc, World.size_alloc] at this
theorem below_new3 {w w1 : World} {o o' o'' : Obj} (hb : Below (((w.alloc o).alloc o').alloc o'').heap.size (((w.alloc o).alloc o').alloc o'') w1) : Below w.heap.size w w1 := below_new2 (below_new1 hb)






set_option maxHeartbeats 1000000 in
theorem eqBox_same (b : BoxV) (w : World) : Calls Try.prog 48 #[b.val, b.val] w fun e w' => e = .returned (.bool true) ∧ Below w.heap.size w w' := by
  obtain ⟨⟨u, s, h, a⟩, n, t, sp⟩ := b
  have HV : Hid (BoxV.val ⟨⟨u, s, h, a⟩, n, t, sp⟩ = .agg #[.int .i64 u, .int .i64 s, .int .i64 h, .int .i64 a, .int .i64 n, .string t, .bool sp]) := rfl
  rw [HV.out]
  go_enter Try.func48, Try.ntmps48
  go_wp2_with fail
  refine (eqKey_same ⟨u, s, h, a⟩ _).mono ?_
  rintro e w1 ⟨rfl, hb⟩
  obtain ⟨⟨a0, a1, a2, a3, a4, a5, a6⟩, _⟩ := blk7 ((hb.block w.heap.size (by simp <;> omega)).trans (heap2a w _ _))
  obtain ⟨⟨b0, b1, b2, b3, b4, b5, b6⟩, _⟩ := blk7 ((hb.block (w.heap.size + 1) (by simp)).trans (heap2b w _ _))
  have HB := Lib.hid (below_new2 hb)
  clear hb
  go_wp2
  go_ret
  exact ⟨rfl, HB.out⟩

end Go.Proofs.Ytakhjdodljhfmaa.Tx

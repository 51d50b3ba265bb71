/-
  What NewGuest of the program answers. No conditions.
-/
import Derived.Test.YtojjfeebhjkdlaaGuest
import Derived.Test.YtojjfeebhjkdlaaImpl2a
namespace Go.Proofs.Ytojjfeebhjkdlaa.Tx
open Go.RowKit

set_option maxHeartbeats 4000000 in
theorem NewGuest_impl (d : Int) (w : World) : Calls Try.prog 5 #[.int .i64 d] w fun e w' => e = .returned (.tuple #[newGuestV d, .bool (isDrawB d)]) ∧ Below w.heap.size w w' := by
  have cD := Lib.hid fun w' => IsDraw_impl d w'
  have HT : Hid (isDrawB d = true → newGuestV d = .agg #[.int .i64 0, .int .i64 d, .int .i64 0, .int .i64 0, .int .i64 0, .int .i64 0, .int .i64 0, .int .i64 0, .int .i64 0, .int .i64 0, .int .i64 0, .string ⟨#[]⟩, .bool false, .bool false, .int .i64 0, .slice none 0 0, .slice none 0 0, .int .i64 0, .int .i64 0, .int .i64 0, .int .i64 0, .int .i64 0, .int .i64 0, .int .i64 0]) := fun h => by rw [newGuestV, if_pos h]; rfl
  have HF : Hid (isDrawB d = false → newGuestV d = .agg #[.int .i64 0, .int .i64 0, .int .i64 0, .int .i64 0, .int .i64 0, .int .i64 0, .int .i64 0, .int .i64 0, .int .i64 0, .int .i64 0, .int .i64 0, .string ⟨#[]⟩, .bool false, .bool false, .int .i64 0, .slice none 0 0, .slice none 0 0, .int .i64 0, .int .i64 0, .int .i64 0, .int .i64 0, .int .i64 0, .int .i64 0, .int .i64 0]) := fun h => by rw [newGuestV, if_neg (by rw [h]; decide)]; rfl
  generalize newGuestV d = out at HT HF ⊢
  generalize isDrawB d = b at cD HT HF ⊢
  obtain ⟨W0, hW0⟩ : ∃ W, w.alloc (.cells #[.int .i64 0, .int .i64 0, .int .i64 0, .int .i64 0, .int .i64 0, .int .i64 0, .int .i64 0, .int .i64 0, .int .i64 0, .int .i64 0, .int .i64 0, .string ⟨#[]⟩, .bool false, .bool false, .int .i64 0, .slice none 0 0, .slice none 0 0, .int .i64 0, .int .i64 0, .int .i64 0, .int .i64 0, .int .i64 0, .int .i64 0, .int .i64 0] 32) = W := ⟨_, rfl⟩
  have K0 : Hid (Below w.heap.size w W0) := by rw [← hW0]; exact (Below.refl _ w).alloc (Nat.le_refl _) _
  have R0 : Hid (W0.heap[w.heap.size]? = some (.cells #[.int .i64 0, .int .i64 0, .int .i64 0, .int .i64 0, .int .i64 0, .int .i64 0, .int .i64 0, .int .i64 0, .int .i64 0, .int .i64 0, .int .i64 0, .string ⟨#[]⟩, .bool false, .bool false, .int .i64 0, .slice none 0 0, .slice none 0 0, .int .i64 0, .int .i64 0, .int .i64 0, .int .i64 0, .int .i64 0, .int .i64 0, .int .i64 0] 32)) := by rw [← hW0]; exact heap1 w _
  go_enter Try.func5, Try.ntmps5
  go_wp2_with fail
  clear hW0
  refine (cD.out _).mono ?_
  rintro e w1 ⟨rfl, hb⟩
  have R1 := Lib.hid (blk_on hb R0.out)
  have K1 := Lib.hid (K0.out.trans (hb.mono K0.out.size))
  clear hb R0 K0
  cases b
  ·
    go_wp2_with (refine wpList_store_row rfl 32 _ _ rfl (w.heap.size) #[.int .i64 0, .int .i64 0, .int .i64 0, .int .i64 0, .int .i64 0, .int .i64 0, .int .i64 0, .int .i64 0, .int .i64 0, .int .i64 0, .int .i64 0, .string ⟨#[]⟩, .bool false, .bool false, .int .i64 0, .slice none 0 0, .slice none 0 0, .int .i64 0, .int .i64 0, .int .i64 0, .int .i64 0, .int .i64 0, .int .i64 0, .int .i64 0] rfl rfl 32 _ R1.out (by kernel_rfl) rfl (by simp [Value.oneCell']) ?_)
    exact row_ret2 (r := w.heap.size) (cs := #[.int .i64 0, .int .i64 0, .int .i64 0, .int .i64 0, .int .i64 0, .int .i64 0, .int .i64 0, .int .i64 0, .int .i64 0, .int .i64 0, .int .i64 0, .string ⟨#[]⟩, .bool false, .bool false, .int .i64 0, .slice none 0 0, .slice none 0 0, .int .i64 0, .int .i64 0, .int .i64 0, .int .i64 0, .int .i64 0, .int .i64 0, .int .i64 0]) rfl rfl rfl (setRow_heap _ _ _ _ _ _ R1.out) Try.underlying32 rfl (by kernel_rfl) rfl ⟨by rw [HF.out (by trivial)]; rfl, below_setRow K1.out (by omega) _⟩
  ·
    go_wp2_with (refine wpList_store_row rfl 32 _ _ rfl (w.heap.size) #[.int .i64 0, .int .i64 d, .int .i64 0, .int .i64 0, .int .i64 0, .int .i64 0, .int .i64 0, .int .i64 0, .int .i64 0, .int .i64 0, .int .i64 0, .string ⟨#[]⟩, .bool false, .bool false, .int .i64 0, .slice none 0 0, .slice none 0 0, .int .i64 0, .int .i64 0, .int .i64 0, .int .i64 0, .int .i64 0, .int .i64 0, .int .i64 0] rfl rfl 32 _ R1.out (by kernel_rfl) rfl (by simp [Value.oneCell']) ?_)
    exact row_ret2 (r := w.heap.size) (cs := #[.int .i64 0, .int .i64 d, .int .i64 0, .int .i64 0, .int .i64 0, .int .i64 0, .int .i64 0, .int .i64 0, .int .i64 0, .int .i64 0, .int .i64 0, .string ⟨#[]⟩, .bool false, .bool false, .int .i64 0, .slice none 0 0, .slice none 0 0, .int .i64 0, .int .i64 0, .int .i64 0, .int .i64 0, .int .i64 0, .int .i64 0, .int .i64 0]) rfl rfl rfl (setRow_heap _ _ _ _ _ _ R1.out) Try.underlying32 rfl (by kernel_rfl) rfl ⟨by rw [HT.out (by trivial)]; rfl, below_setRow K1.out (by omega) _⟩

end Go.Proofs.Ytojjfeebhjkdlaa.Tx

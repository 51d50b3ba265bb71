/-
  What Greeting, l9Bit, l9Text and Binds of the model answer. Condition: an age is an int64.
-/
import Derived.Test.YtoffdlokndngeaaGreatDoorHello
import Derived.Test.YtoffdlokndngeaaGreatDoorNum
import Derived.Test.YtoffdlokndngeaaGreatDoorRegionL
namespace Go.Proofs.YtoffdlokndngeaaGreatDoor.Tx
open Go.RowKit

set_option maxHeartbeats 4000000 in
theorem Greeting_spec (d : Int) (ag : Bool) (w : World) : Calls Tryz.prog 98 #[.int .i64 d, .bool ag] w fun e w' => e = .returned (.tuple #[(helNew d ag).val, .bool (isDrawB d)]) ∧ Below w.heap.size w w' := by
  obtain ⟨V, hV⟩ : ∃ V, (w.alloc (.cells #[.int .i64 0, .bool false, .int .i64 0, .int .i64 0, .int .i64 0, .int .i64 0, .int .i64 0, .string ⟨#[]⟩, .bool false, .int .i64 0, .int .i64 0, .int .i64 0, .int .i64 0, .int .i64 0, .int .i64 0, .string ⟨#[]⟩, .bool false, .bool false] 32)).alloc (.cells #[.int .i64 0, .bool false, .int .i64 0, .int .i64 0, .int .i64 0, .int .i64 0, .int .i64 0, .string ⟨#[]⟩, .bool false, .int .i64 0, .int .i64 0, .int .i64 0, .int .i64 0, .int .i64 0, .int .i64 0, .string ⟨#[]⟩, .bool false, .bool false] 32) = V := ⟨_, rfl⟩
  have K0 : Hid (Below w.heap.size w V) := by rw [← hV]; exact ((Below.refl _ w).alloc (Nat.le_refl _) _).alloc (by simp) _
  have R0 : Hid (V.heap[w.heap.size]? = some (.cells #[.int .i64 0, .bool false, .int .i64 0, .int .i64 0, .int .i64 0, .int .i64 0, .int .i64 0, .string ⟨#[]⟩, .bool false, .int .i64 0, .int .i64 0, .int .i64 0, .int .i64 0, .int .i64 0, .int .i64 0, .string ⟨#[]⟩, .bool false, .bool false] 32)) := by rw [← hV]; exact heap2a w _ _
  have O0 : Hid (V.heap[w.heap.size + 1]? = some (.cells #[.int .i64 0, .bool false, .int .i64 0, .int .i64 0, .int .i64 0, .int .i64 0, .int .i64 0, .string ⟨#[]⟩, .bool false, .int .i64 0, .int .i64 0, .int .i64 0, .int .i64 0, .int .i64 0, .int .i64 0, .string ⟨#[]⟩, .bool false, .bool false] 32)) := by rw [← hV]; exact heap2b w _ _
  have O1 : Hid ((V.setRow (w.heap.size + 1) #[.int .i64 d, .bool ag, .int .i64 0, .int .i64 0, .int .i64 0, .int .i64 0, .int .i64 0, .string ⟨#[]⟩, .bool false, .int .i64 0, .int .i64 0, .int .i64 0, .int .i64 0, .int .i64 0, .int .i64 0, .string ⟨#[]⟩, .bool false, .bool false]).heap[w.heap.size + 1]? = some (.cells #[.int .i64 d, .bool ag, .int .i64 0, .int .i64 0, .int .i64 0, .int .i64 0, .int .i64 0, .string ⟨#[]⟩, .bool false, .int .i64 0, .int .i64 0, .int .i64 0, .int .i64 0, .int .i64 0, .int .i64 0, .string ⟨#[]⟩, .bool false, .bool false] 32)) := setRow_heap _ _ _ _ _ _ O0.out
  have R1 : Hid ((V.setRow (w.heap.size + 1) #[.int .i64 d, .bool ag, .int .i64 0, .int .i64 0, .int .i64 0, .int .i64 0, .int .i64 0, .string ⟨#[]⟩, .bool false, .int .i64 0, .int .i64 0, .int .i64 0, .int .i64 0, .int .i64 0, .int .i64 0, .string ⟨#[]⟩, .bool false, .bool false]).heap[w.heap.size]? = some (.cells #[.int .i64 0, .bool false, .int .i64 0, .int .i64 0, .int .i64 0, .int .i64 0, .int .i64 0, .string ⟨#[]⟩, .bool false, .int .i64 0, .int .i64 0, .int .i64 0, .int .i64 0, .int .i64 0, .int .i64 0, .string ⟨#[]⟩, .bool false, .bool false] 32)) := (setRow_other _ _ _ _ (by omega)).trans R0.out
  have K1 : Hid (Below w.heap.size w (V.setRow (w.heap.size + 1) #[.int .i64 d, .bool ag, .int .i64 0, .int .i64 0, .int .i64 0, .int .i64 0, .int .i64 0, .string ⟨#[]⟩, .bool false, .int .i64 0, .int .i64 0, .int .i64 0, .int .i64 0, .int .i64 0, .int .i64 0, .string ⟨#[]⟩, .bool false, .bool false])) := below_setRow K0.out (by omega) _
  have cH : Hid (∀ w' : World, Calls Tryz.prog 39 #[.agg #[.int .i64 d, .bool ag, .int .i64 0, .int .i64 0, .int .i64 0, .int .i64 0, .int .i64 0, .string ⟨#[]⟩, .bool false, .int .i64 0, .int .i64 0, .int .i64 0, .int .i64 0, .int .i64 0, .int .i64 0, .string ⟨#[]⟩, .bool false, .bool false]] w' fun e w'' => e = .returned (.bool (isDrawB d)) ∧ Below w'.heap.size w' w'') := fun w' => by
    have := HelloOk_spec (helGr d ag) w'
    rw [gr_ok] at this
    exact this
  have HR : Hid ((helNew d ag).val = if isDrawB d then (helGr d ag).val else HelV.zero.val) := by show _ = _; unfold helNew; split <;> rfl
  rw [HR.out]
  generalize isDrawB d = z at cH ⊢
  clear HR
  go_enter Tryz.func98, Tryz.ntmps98
  go_wp2_with (first | (refine wpList_store_row rfl 32 _ _ rfl (w.heap.size + 1) #[.int .i64 d, .bool ag, .int .i64 0, .int .i64 0, .int .i64 0, .int .i64 0, .int .i64 0, .string ⟨#[]⟩, .bool false, .int .i64 0, .int .i64 0, .int .i64 0, .int .i64 0, .int .i64 0, .int .i64 0, .string ⟨#[]⟩, .bool false, .bool false] rfl rfl 32 _ O0.out (by kernel_rfl) rfl (by simp [Value.oneCell']) ?_) | (refine wpList_load_row rfl 32 _ rfl (w.heap.size + 1) rfl 32 _ (0, 0) _ O1.out Tryz.underlying32 rfl (by kernel_rfl) ?_))
  clear hV
  refine (cH.out _).mono ?_
  rintro e w1 ⟨rfl, hb⟩
  have R2 := Lib.hid (blk_on hb R1.out)
  have O2 := Lib.hid (blk_on hb O1.out)
  have K2 := Lib.hid (K1.out.trans (hb.mono K1.out.size))
  clear hb R1 O1 K1 R0 O0 K0
  cases z with
  | false =>
    go_wp2_with (refine wpList_store_row rfl 32 _ _ rfl (w.heap.size) #[.int .i64 0, .bool false, .int .i64 0, .int .i64 0, .int .i64 0, .int .i64 0, .int .i64 0, .string ⟨#[]⟩, .bool false, .int .i64 0, .int .i64 0, .int .i64 0, .int .i64 0, .int .i64 0, .int .i64 0, .string ⟨#[]⟩, .bool false, .bool false] rfl rfl 32 _ R2.out (by kernel_rfl) rfl (by simp [Value.oneCell']) ?_)
    exact row_ret2 (cs := #[.int .i64 0, .bool false, .int .i64 0, .int .i64 0, .int .i64 0, .int .i64 0, .int .i64 0, .string ⟨#[]⟩, .bool false, .int .i64 0, .int .i64 0, .int .i64 0, .int .i64 0, .int .i64 0, .int .i64 0, .string ⟨#[]⟩, .bool false, .bool false]) rfl rfl rfl (setRow_heap _ _ _ _ _ _ R2.out) Tryz.underlying32 rfl (by kernel_rfl) rfl ⟨rfl, below_setRow K2.out (Nat.le_refl _) _⟩
  | true =>
    go_wp2_with (first | (refine wpList_store_row rfl 32 _ _ rfl (w.heap.size) #[.int .i64 d, .bool ag, .int .i64 0, .int .i64 0, .int .i64 0, .int .i64 0, .int .i64 0, .string ⟨#[]⟩, .bool false, .int .i64 0, .int .i64 0, .int .i64 0, .int .i64 0, .int .i64 0, .int .i64 0, .string ⟨#[]⟩, .bool false, .bool false] rfl rfl 32 _ R2.out (by kernel_rfl) rfl (by simp [Value.oneCell']) ?_) | (refine wpList_load_row rfl 32 _ rfl (w.heap.size + 1) rfl 32 _ (0, 0) _ O2.out Tryz.underlying32 rfl (by kernel_rfl) ?_))
    exact row_ret2 (cs := #[.int .i64 d, .bool ag, .int .i64 0, .int .i64 0, .int .i64 0, .int .i64 0, .int .i64 0, .string ⟨#[]⟩, .bool false, .int .i64 0, .int .i64 0, .int .i64 0, .int .i64 0, .int .i64 0, .int .i64 0, .string ⟨#[]⟩, .bool false, .bool false]) rfl rfl rfl (setRow_heap _ _ _ _ _ _ R2.out) Tryz.underlying32 rfl (by kernel_rfl) rfl ⟨rfl, below_setRow K2.out (Nat.le_refl _) _⟩

end Go.Proofs.YtoffdlokndngeaaGreatDoor.Tx

/-
  What toWord, szWord and eqWord of the laws do. Condition: a word's text has at most 2^63 - 1 bytes.
-/
import Derived.Deep.DeepCutAuto
import Derived.Laws.CopyOwn
import Derived.Test.YtioogmeghmeelaaBox
import Derived.Test.YtioogmeghmeelaaSeat0
namespace Go.Proofs.Ytioogmeghmeelaa.Tx
open Go.RowKit

set_option maxHeartbeats 2000000 in
theorem toWord_any (q : WordV) (w : World) : Calls Try.prog 57 #[q.val] w fun e w' => e = .returned q.val ∧ Below w.heap.size w w' := by
  obtain ⟨xt, xp⟩ := q
  have HV : Hid (WordV.val ⟨xt, xp⟩ = .agg #[.string xt, .bool xp]) := rfl
  rw [HV.out]
  obtain ⟨W, hW⟩ : ∃ W, ((w.alloc (.cells #[.string xt, .bool xp] 90)).alloc (.cells #[.string ⟨#[]⟩, .bool false] 92)).alloc (.cells #[.string xt, .bool xp] 92) = W := ⟨_, rfl⟩
  have HB0 : Hid (Below w.heap.size w W) := by rw [← hW]; exact (((Below.refl _ w).alloc (Nat.le_refl _) _).alloc (by simp) _).alloc (by simp; omega) _
  have R0 : Hid (W.heap[w.heap.size + 1]? = some (.cells #[.string ⟨#[]⟩, .bool false] 92)) := by rw [← hW]; exact heap3b w _ _ _
  have O0 : Hid (W.heap[w.heap.size + 1 + 1]? = some (.cells #[.string xt, .bool xp] 92)) := by rw [← hW]; exact heap3c w _ _ _
  go_enter Try.func57, Try.ntmps57
  go_upto_region 4 with fail
  try rw [hW]
  clear hW
  refine wp_region_lit ?_
  refine wpList_load_row rfl 92 (.tmp 3) rfl (w.heap.size + 1 + 1) rfl 92 _ (0, 0) _ O0.out Try.underlying92 rfl (by kernel_rfl) ?_
  refine wpList_store_row rfl 92 (.tmp 2) (.tmp 10) rfl (w.heap.size + 1) #[.string xt, .bool xp] rfl rfl 92 _ R0.out (by kernel_rfl) rfl (by simp [Value.oneCell']) ?_
  have HV3 := Lib.hid (setRow_heap _ _ _ #[.string xt, .bool xp] _ _ R0.out)
  have HB4 := Lib.hid (below_setRow HB0.out (g := w.heap.size + 1) (by omega) #[.string xt, .bool xp])
  clear R0 O0 HB0
  generalize W.setRow (w.heap.size + 1) #[.string xt, .bool xp] = V3 at HV3 HB4 ⊢
  go_wp2
  exact row_ret (cs := #[.string xt, .bool xp]) rfl rfl HV3.out Try.underlying92 rfl (by kernel_rfl) rfl ⟨rfl, HB4.out⟩

theorem szWord_any (q : WordV) (hx : q.t.size ≤ 9223372036854775807) (left : Int) (h0 : 0 ≤ left) (h1 : left ≤ 1099511627776) (w : World) : Calls Try.prog 55 #[q.val, .int .i64 left] w fun e w' => e = .returned (.int .i64 (szLeft left q.t.size)) ∧ Below w.heap.size w w' := by
  obtain ⟨xt, xp⟩ := q
  have HV : Hid (WordV.val ⟨xt, xp⟩ = .agg #[.string xt, .bool xp]) := rfl
  rw [HV.out]
  dsimp only at hx ⊢
  have HB : Hid (Below w.heap.size w (w.alloc (.cells #[.string xt, .bool xp] 90))) := (Below.refl _ w).alloc (Nat.le_refl _) _
  by_cases hl : left - (xt.size : Int) < 0
  · have HR : Hid (szLeft left xt.size = -1) := if_pos hl
    go_enter Try.func55, Try.ntmps55
    go_wp2
    go_ret
    exact ⟨by rw [HR.out]; rfl, HB.out⟩
  · have HR : Hid (szLeft left xt.size = left - xt.size) := if_neg hl
    go_enter Try.func55, Try.ntmps55
    go_wp2
    go_ret
    exact ⟨by rw [HR.out]; rfl, HB.out⟩

theorem eqWord_same (q : WordV) (w : World) : Calls Try.prog 67 #[q.val, q.val] w fun e w' => e = .returned (.bool true) ∧ Below w.heap.size w w' := by
  obtain ⟨xt, xp⟩ := q
  have HV : Hid (WordV.val ⟨xt, xp⟩ = .agg #[.string xt, .bool xp]) := rfl
  rw [HV.out]
  have HB : Hid (Below w.heap.size w ((w.alloc (.cells #[.string xt, .bool xp] 92)).alloc (.cells #[.string xt, .bool xp] 92))) := ((Below.refl _ w).alloc (Nat.le_refl _) _).alloc (by simp) _
  have hpp : (xp != xp) = false := by simp
  go_enter Try.func67, Try.ntmps67
  go_wp2
  go_ret
  exact ⟨rfl, HB.out⟩

end Go.Proofs.Ytioogmeghmeelaa.Tx

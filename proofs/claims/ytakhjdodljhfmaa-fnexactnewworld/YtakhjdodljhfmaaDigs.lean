/-
  A number's digits, one byte as a string. No conditions.
-/
import Derived.Laws.BytesArg
import Derived.Test.YtakhjdodljhfmaaBlk
import Derived.Test.YtakhjdodljhfmaaProg
namespace Go.Proofs.Ytakhjdodljhfmaa.Tx
open Go.RowKit

/-- One byte as a string. -/
def chr1 (x : Int) : ByteArray := strOfNums [x]
/-- The digits of k behind which 'out' stands. -/
def digs (k : Nat) : ByteArray := if k = 0 then ⟨#[]⟩ else digs (k / 10) ++ chr1 (48 + (k % 10 : Nat) : Int)
termination_by k
decreasing_by omega
theorem digs_zero : digs 0 = ⟨#[]⟩ := by rw [digs]; rfl
theorem digs_pos {k : Nat} (h : 0 < k) : digs k = digs (k / 10) ++ chr1 (48 + (k % 10 : Nat) : Int) := by rw [digs, if_neg (by omega)]
theorem chr1_size (x : Int) : (chr1 x).size = 1 := rfl
theorem digs_size : ∀ (n k : Nat), k < 10 ^ n → (digs k).size ≤ n
  | 0, k, h => by
    obtain rfl : k = 0 := by simp at h; exact h
    rw [digs_zero]; exact Nat.le_refl _
  | n + 1, k, h => by
    by_cases hk : k = 0
    · subst hk; rw [digs_zero]; exact Nat.zero_le _
    · rw [digs_pos (by omega), ByteArray.size_append, chr1_size]
      have := digs_size n (k / 10) (by rw [Nat.pow_succ] at h; omega)
      omega

theorem conv_one (x : Int) (w : World) : (convert 103 9 (.slice (some ⟨w.heap.size, 0, none⟩) 1 1)).run Try.prog (w.alloc (.cells #[.int .u8 x] 5)) = .ok (.string (chr1 x)) (w.alloc (.cells #[.int .u8 x] 5)) :=
  run_convert_bytes_arg _ 103 5 Try.underlying103 Try.underlying5 w.heap.size 0 1 1 [x] rfl (fun j hj => by
    obtain rfl : j = 0 := by omega
    rw [blk_cell (heap1 w _)]; rfl) 9 Try.underlying9

end Go.Proofs.Ytakhjdodljhfmaa.Tx

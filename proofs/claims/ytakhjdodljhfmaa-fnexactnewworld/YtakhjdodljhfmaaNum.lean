/-
  What l1Int of the model answers: a number's text. Condition: the number is an int64.
-/
import Derived.Test.YtakhjdodljhfmaaDigs
import Derived.Test.YtakhjdodljhfmaaLists
namespace Go.Proofs.Ytakhjdodljhfmaa.Tx
open Go.RowKit

/-- Is it an int64? -/
def I64 (n : Int) : Prop := -9223372036854775808 ≤ n ∧ n ≤ 9223372036854775807
/-- The text of a number that is not below 0, and of any. -/
def decT (k : Nat) : ByteArray := if k = 0 then chr1 48 else digs k
def intT (n : Int) : ByteArray := if n < 0 then ⟨#[45]⟩ ++ decT n.natAbs else decT n.natAbs
theorem dec_step (k : Nat) : digs (k / 10) ++ chr1 (48 + (k % 10 : Nat) : Int) = decT k := by
  by_cases h : k = 0
  · subst h
    rw [digs_zero]
    exact ByteArray.empty_append
  · rw [decT, if_neg h]; exact (digs_pos (k := k) (by omega)).symm
theorem decT_size {k : Nat} (h : k ≤ 9223372036854775808) : 1 ≤ (decT k).size ∧ (decT k).size ≤ 19 := by
  unfold decT
  split
  · exact ⟨Nat.le_refl _, by rw [chr1_size]; omega⟩
  · rename_i h0
    refine ⟨by rw [digs_pos (by omega), ByteArray.size_append, chr1_size]; omega, digs_size 19 k (by omega)⟩
theorem empty_not {s : ByteArray} (h : s.size ≠ 0) : ¬ s.toList = [] ∧ s.toList.isEmpty = false := by
  have h1 : ¬ s.toList = [] := fun e => h (by
    rw [ByteArray.toList_eq] at e
    have := congrArg List.length e
    simpa using this)
  exact ⟨h1, by simpa using h1⟩

/-- 1 of the empty string, 0 of others. -/
def emptyN : Value → Nat
  | .string s => 1 - s.size
  | _ => 0
theorem emptyN_nil : emptyN (.string ⟨#[]⟩) = 1 := rfl
theorem emptyN_chr (x : Int) (s : ByteArray) : emptyN (.string (chr1 x ++ s)) = 0 := by
  show 1 - (chr1 x ++ s).size = 0
  rw [ByteArray.size_append, chr1_size]; omega

theorem intT_size (n : Int) (h : -9223372036854775808 ≤ n ∧ n ≤ 9223372036854775807) : (intT n).size ≤ 20 := by
  have := (decT_size (k := n.natAbs) (by omega)).2
  unfold intT
  split
  · rw [ByteArray.size_append]; show 1 + _ ≤ 20; omega
  · omega

/-- Words with a text between. -/
def tailsT (b : ByteArray) : List ByteArray → ByteArray
  | [] => ⟨#[]⟩
  | t :: l => b ++ (t ++ tailsT b l)
def joinT (b : ByteArray) : List ByteArray → ByteArray
  | [] => ⟨#[]⟩
  | s :: l => s ++ tailsT b l
theorem append_nil' (s : ByteArray) : s ++ (⟨#[]⟩ : ByteArray) = s := ByteArray.append_empty
theorem tailsT_snoc (b x : ByteArray) : ∀ l : List ByteArray, tailsT b (l ++ [x]) = tailsT b l ++ (b ++ x)
  | [] => by show b ++ (x ++ ⟨#[]⟩) = ⟨#[]⟩ ++ (b ++ x); rw [append_nil']; exact ByteArray.empty_append.symm
  | t :: l => by show b ++ (t ++ tailsT b (l ++ [x])) = b ++ (t ++ tailsT b l) ++ (b ++ x); rw [tailsT_snoc b x l]; simp only [ByteArray.append_assoc]
theorem joinT_snoc {b x : ByteArray} {l : List ByteArray} (h : l ≠ []) : joinT b (l ++ [x]) = joinT b l ++ b ++ x := by
  cases l with
  | nil => exact absurd rfl h
  | cons s l => show s ++ tailsT b (l ++ [x]) = s ++ tailsT b l ++ b ++ x; rw [tailsT_snoc]; simp only [ByteArray.append_assoc]
theorem joinT_one (b x : ByteArray) : joinT b [x] = x := append_nil' x
theorem tailsT_size (b : ByteArray) : ∀ l : List ByteArray, (tailsT b l).size = sumB l + l.length * b.size
  | [] => by show 0 = _; simp [sumB]
  | t :: l => by
    show (b ++ (t ++ tailsT b l)).size = _
    rw [ByteArray.size_append, ByteArray.size_append, tailsT_size b l, List.length_cons, Nat.succ_mul]
    have : sumB (t :: l) = t.size + sumB l := by simp [sumB]
    omega
theorem joinT_size (b : ByteArray) (l : List ByteArray) : (joinT b l).size ≤ sumB l + l.length * b.size := by
  cases l with
  | nil => exact Nat.zero_le _
  | cons s l =>
    show (s ++ tailsT b l).size ≤ _
    rw [ByteArray.size_append, tailsT_size, List.length_cons, Nat.succ_mul]
    have : sumB (s :: l) = s.size + sumB l := by simp [sumB]
    omega


end Go.Proofs.Ytakhjdodljhfmaa.Tx

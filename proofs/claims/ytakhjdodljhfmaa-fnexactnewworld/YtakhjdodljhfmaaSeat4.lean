/-
  What EarlyIn, LogOf and l14Copy of the model answer. Condition: at most 1048576 words.
-/
import Derived.Test.YtakhjdodljhfmaaSeat3
namespace Go.Proofs.Ytakhjdodljhfmaa.Tx
open Go.RowKit

/-- How many are early. -/
def earlyN (l : List WordV) : Nat := l.countP (·.e)
theorem early_le (l : List WordV) : earlyN l ≤ l.length := List.countP_le_length
theorem early_step {l : List WordV} {k : Nat} {q : WordV} (h : l[k]? = some q) : earlyN (l.take (k + 1)) = earlyN (l.take k) + (if q.e then 1 else 0) := by
  obtain ⟨hk, e⟩ := List.getElem?_eq_some_iff.1 h
  rw [earlyN, List.take_succ_eq_append_getElem hk, List.countP_append, e, earlyN]
  congr 1
  cases he : q.e <;> simp [he]
theorem text_step {l : List WordV} {k : Nat} {q : WordV} (h : l[k]? = some q) : (l.take (k + 1)).map WordV.t = (l.take k).map WordV.t ++ [q.t] := by
  obtain ⟨hk, e⟩ := List.getElem?_eq_some_iff.1 h
  rw [List.take_succ_eq_append_getElem hk, List.map_append, e]; rfl
theorem infoStrE : ∃ (i : TypeInfo) (by' : Nat), Try.prog.info? 9 = some i ∧ i.zero = some (.string ⟨#[]⟩) ∧ i.size = 1 ∧ i.bytes = by' ∧ by' ≤ 200 := by
  obtain ⟨i, hi⟩ := Option.isSome_iff_exists.1 (show (Try.prog.info? 9).isSome = true by kernel_rfl)
  have h1 : (Try.prog.info? 9).map (fun i => (i.zero, i.size)) = some (some (.string ⟨#[]⟩), 1) := by kernel_rfl
  have h2 : ((Try.prog.info? 9).map (fun i => decide (i.bytes ≤ 200))) = some true := by kernel_rfl
  rw [hi] at h1 h2
  simp only [Option.map_some, Option.some.injEq, Prod.mk.injEq, decide_eq_true_eq] at h1 h2
  exact ⟨i, i.bytes, hi, h1.1, h1.2, rfl, h2⟩
theorem infoWordE : ∃ (i : TypeInfo) (by' : Nat), Try.prog.info? 94 = some i ∧ i.zero = some WordV.zero.val ∧ i.size = 2 ∧ i.bytes = by' ∧ by' ≤ 200 := by
  obtain ⟨i, hi⟩ := Option.isSome_iff_exists.1 (show (Try.prog.info? 94).isSome = true by kernel_rfl)
  have h1 : (Try.prog.info? 94).map (fun i => (i.zero, i.size)) = some (some WordV.zero.val, 2) := by kernel_rfl
  have h2 : ((Try.prog.info? 94).map (fun i => decide (i.bytes ≤ 200))) = some true := by kernel_rfl
  rw [hi] at h1 h2
  simp only [Option.map_some, Option.some.injEq, Prod.mk.injEq, decide_eq_true_eq] at h1 h2
  exact ⟨i, i.bytes, hi, h1.1, h1.2, rfl, h2⟩

end Go.Proofs.Ytakhjdodljhfmaa.Tx

/-
  Plain facts on draws: which numbers are draws, the next draw, lists in which no two are alike. Nothing of the program is named here. No conditions.
-/
import Derived.WalkKit
namespace Go.Proofs.Ytakhjdodljhfmaa.Tx

def isDrawB (n : Int) : Bool := decide (1 ≤ n) && decide (n ≤ 100000)
def nextD (n : Int) : Int := if 0 ≤ n ∧ n ≤ 99999 then n + 1 else 0
def nextB (n : Int) : Bool := decide (0 ≤ n) && decide (n ≤ 99999)
def unlikeB (zs : List Int) : Bool := decide zs.Nodup

theorem nextB_false {n : Int} (h : nextB n = false) : nextD n = 0 ∧ (n < 0 ∨ 99999 < n) := by
  unfold nextB at h
  unfold nextD
  rw [Bool.and_eq_false_iff, decide_eq_false_iff_not, decide_eq_false_iff_not] at h
  rw [if_neg (by omega)]
  omega
theorem nextB_true {n : Int} (h : nextB n = true) : nextD n = n + 1 ∧ 0 ≤ n ∧ n ≤ 99999 := by
  unfold nextB at h
  unfold nextD
  rw [Bool.and_eq_true, decide_eq_true_iff, decide_eq_true_iff] at h
  rw [if_pos (by omega)]
  omega
theorem isDraw_iff {n : Int} : isDrawB n = true ↔ 1 ≤ n ∧ n ≤ 100000 := by unfold isDrawB; rw [Bool.and_eq_true, decide_eq_true_iff, decide_eq_true_iff]

theorem nodup_succ {zs : List Int} {k : Nat} (hk : k < zs.length) (h : (zs.take k).Nodup) (hne : ∀ t, t < k → zs[t]?.getD 0 ≠ zs[k]?.getD 0) : (zs.take (k + 1)).Nodup := by
  rw [List.take_succ_eq_append_getElem hk, List.nodup_append]
  refine ⟨h, by simp, ?_⟩
  intro a ha b hb
  simp at hb
  subst hb
  obtain ⟨t, ht, e⟩ := List.getElem_of_mem ha
  have htk : t < k := by simp at ht; omega
  have := hne t htk
  rw [List.getElem?_eq_getElem (by omega), List.getElem?_eq_getElem hk] at this
  rw [List.getElem_take] at e
  rw [← e]
  simpa using this
theorem not_nodup {zs : List Int} {j k : Nat} (hjk : j < k) (hk : k < zs.length) (e : zs[k]?.getD 0 = zs[j]?.getD 0) : unlikeB zs = false := by
  unfold unlikeB
  rw [decide_eq_false_iff_not]
  intro h
  have := (List.pairwise_iff_getElem.1 h) j k (by omega) hk hjk
  apply this
  rw [List.getElem?_eq_getElem hk, List.getElem?_eq_getElem (show j < zs.length by omega)] at e
  simpa using e.symm
theorem nodup_all {zs : List Int} {k : Nat} (hk : zs.length ≤ k) (h : (zs.take k).Nodup) : unlikeB zs = true := by
  rw [List.take_of_length_le hk] at h
  exact decide_eq_true h

end Go.Proofs.Ytakhjdodljhfmaa.Tx

/-
  Plain facts on draws: which numbers are draws, the next draw, lists in which no two are alike. Nothing of the program is named here. No conditions.
  What the model's l1In answers: whether x is from lo to hi. No conditions.
  Plain facts on keys: which are right, the one that follows. Nothing of the program is named here, but for In's test. No conditions.
-/
import Derived.WalkKit
import Derived.Test.YtioogmeghmeelaaGreatDoorProg
namespace Go.Proofs.YtioogmeghmeelaaGreatDoor.Tx

def isDrawB (n : Int) : Bool := decide (1 ≤ n) && decide (n ≤ 100000)
def nextD (n : Int) : Int := if 0 ≤ n ∧ n ≤ 99999 then n + 1 else 0
def nextB (n : Int) : Bool := decide (0 ≤ n) && decide (n ≤ 99999)
def unlikeB (zs : List Int) : Bool := decide zs.Nodup

theorem nextB_false {n : Int} (h : nextB n = false) : nextD n = 0 ∧ (n < 0 ∨ 99999 < n) := by
  unfold nextB at h
  unfold nextD
  rw [Bool.and_eq_false_iff, decide_eq_false_iff_not, decide_eq_false_iff_not] at h
  rw [if_neg (by omega)]
  omega
theorem nextB_true {n : Int} (h : nextB n = true) : nextD n = n + 1 ∧ 0 ≤ n ∧ n ≤ 99999 := by
  unfold nextB at h
  unfold nextD
  rw [Bool.and_eq_true, decide_eq_true_iff, decide_eq_true_iff] at h
  rw [if_pos (by omega)]
  omega
theorem isDraw_iff {n : Int} : isDrawB n = true ↔ 1 ≤ n ∧ n ≤ 100000 := by unfold isDrawB; rw [Bool.and_eq_true, decide_eq_true_iff, decide_eq_true_iff]

theorem nodup_succ {zs : List Int} {k : Nat} (hk : k < zs.length) (h : (zs.take k).Nodup) (hne : ∀ t, t < k → zs[t]?.getD 0 ≠ zs[k]?.getD 0) : (zs.take (k + 1)).Nodup := by
  rw [List.take_succ_eq_append_getElem hk, List.nodup_append]
  refine ⟨h, by simp, ?_⟩
  intro a ha b hb
  simp at hb
  subst hb
  obtain ⟨t, ht, e⟩ := List.getElem_of_mem ha
  have htk : t < k := by simp at ht; omega
  have := hne t htk
  rw [List.getElem?_eq_getElem (by omega), List.getElem?_eq_getElem hk] at this
  rw [List.getElem_take] at e
  rw [← e]
  simpa using this
theorem not_nodup {zs : List Int} {j k : Nat} (hjk : j < k) (hk : k < zs.length) (e : zs[k]?.getD 0 = zs[j]?.getD 0) : unlikeB zs = false := by
  unfold unlikeB
  rw [decide_eq_false_iff_not]
  intro h
  have := (List.pairwise_iff_getElem.1 h) j k (by omega) hk hjk
  apply this
  rw [List.getElem?_eq_getElem hk, List.getElem?_eq_getElem (show j < zs.length by omega)] at e
  simpa using e.symm
theorem nodup_all {zs : List Int} {k : Nat} (hk : zs.length ≤ k) (h : (zs.take k).Nodup) : unlikeB zs = true := by
  rw [List.take_of_length_le hk] at h
  exact decide_eq_true h

end Go.Proofs.YtioogmeghmeelaaGreatDoor.Tx
namespace Go.Proofs.YtioogmeghmeelaaGreatDoor.Tx
open Go.RowKit

theorem l1In_any (x lo hi : Int) (w : World) : Calls Tryz.prog 17 #[.int .i64 x, .int .i64 lo, .int .i64 hi] w fun e w' => e = .returned (.bool (decide (lo ≤ x) && decide (x ≤ hi))) ∧ w = w' := by
  by_cases h1 : lo ≤ x <;> by_cases h2 : x ≤ hi
  all_goals
    go_enter Tryz.func17, Tryz.ntmps17
    go_wp2
    go_ret
    exact ⟨by simp [h1, h2], rfl⟩

/-- Is x from lo to hi? -/
def inB (x lo hi : Int) : Bool := decide (lo ≤ x) && decide (x ≤ hi)
theorem inB_true {x lo hi : Int} (h : inB x lo hi = true) : lo ≤ x ∧ x ≤ hi := by
  unfold inB at h
  rw [Bool.and_eq_true] at h
  exact ⟨of_decide_eq_true h.1, of_decide_eq_true h.2⟩
theorem inB_false {x lo hi : Int} (h : inB x lo hi = false) : x < lo ∨ hi < x := by
  unfold inB at h
  rw [Bool.and_eq_false_iff, decide_eq_false_iff_not, decide_eq_false_iff_not] at h
  omega
theorem inB_mk {x lo hi : Int} (h : lo ≤ x ∧ x ≤ hi) : inB x lo hi = true := by
  unfold inB
  rw [decide_eq_true h.1, decide_eq_true h.2]; rfl
theorem inB_no {x lo hi : Int} (h : x < lo ∨ hi < x) : inB x lo hi = false := by
  unfold inB
  rw [Bool.and_eq_false_iff, decide_eq_false_iff_not, decide_eq_false_iff_not]
  omega
theorem l1In_b (x lo hi : Int) (w : World) : Calls Tryz.prog 17 #[.int .i64 x, .int .i64 lo, .int .i64 hi] w fun e w' => e = .returned (.bool (inB x lo hi)) ∧ w = w' := l1In_any x lo hi w

theorem IsDraw_spec (n : Int) (w : World) : Calls Tryz.prog 55 #[.int .i64 n] w fun e w' => e = .returned (.bool (isDrawB n)) ∧ w = w' := by
  go_enter Tryz.func55, Tryz.ntmps55
  go_wp2_with fail
  refine (l1In_b _ _ _ _).mono ?_
  rintro e w' ⟨rfl, rfl⟩
  go_wp2
  go_ret
  exact ⟨rfl, rfl⟩

end Go.Proofs.YtioogmeghmeelaaGreatDoor.Tx
namespace Go.Proofs.YtioogmeghmeelaaGreatDoor.Tx

/-- A key's four numbers. -/
structure KeyV where
  u : Int
  s : Int
  h : Int
  a : Int
def KeyV.zero : KeyV := ⟨0, 0, 0, 0⟩
def KeyV.val (k : KeyV) : Value := .agg #[.int .i64 k.u, .int .i64 k.s, .int .i64 k.h, .int .i64 k.a]

/-- Is it right? -/
def keyOkB (k : KeyV) : Bool :=
  inB k.u 1 6 && (inB k.s 0 100000 && (if k.u == 6 then k.h == 0 && k.a == 0 else isDrawB k.h && (if inB k.u 3 5 then isDrawB k.a else k.a == 0)))
/-- That key, or the zero one where it is not right. -/
def rightK (k : KeyV) : KeyV := if keyOkB k then k else .zero
/-- The one that follows. -/
def nextK (k : KeyV) : KeyV := if keyOkB k && inB k.u 3 5 then { k with u := if k.u + 1 > 5 then 3 else k.u + 1 } else .zero

theorem rightK_no {k : KeyV} (h : keyOkB k = false) : rightK k = .zero := by simp [rightK, h]
theorem rightK_yes {k : KeyV} (h : keyOkB k = true) : rightK k = k := by simp [rightK, h]
theorem beq_int {x y : Int} (h : x = y) : (x == y) = true := by rw [h]; exact beq_self_eq_true y
theorem bne_int {x y : Int} (h : x ≠ y) : (x == y) = false := by rw [beq_eq_false_iff_ne]; exact h

end Go.Proofs.YtioogmeghmeelaaGreatDoor.Tx

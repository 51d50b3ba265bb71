/-
  Plain facts on keys: which are right, the one that follows. Nothing of the program is named here, but for In's test. No conditions.
-/
import Derived.Test.YtakhjdodljhfmaaIn
import Derived.Test.YtakhjdodljhfmaaDraws0
namespace Go.Proofs.Ytakhjdodljhfmaa.Tx

/-- A key's four numbers. -/
structure KeyV where
  u : Int
  s : Int
  h : Int
  a : Int
def KeyV.zero : KeyV := ⟨0, 0, 0, 0⟩
def KeyV.val (k : KeyV) : Value := .agg #[.int .i64 k.u, .int .i64 k.s, .int .i64 k.h, .int .i64 k.a]

/-- Is it right? -/
def keyOkB (k : KeyV) : Bool :=
  inB k.u 1 6 && (inB k.s 0 100000 && (if k.u == 6 then k.h == 0 && k.a == 0 else isDrawB k.h && (if inB k.u 3 5 then isDrawB k.a else k.a == 0)))
/-- That key, or the zero one where it is not right. -/
def rightK (k : KeyV) : KeyV := if keyOkB k then k else .zero
/-- The one that follows. -/
def nextK (k : KeyV) : KeyV := if keyOkB k && inB k.u 3 5 then { k with u := if k.u + 1 > 5 then 3 else k.u + 1 } else .zero

theorem rightK_no {k : KeyV} (h : keyOkB k = false) : rightK k = .zero := by simp [rightK, h]
theorem rightK_yes {k : KeyV} (h : keyOkB k = true) : rightK k = k := by simp [rightK, h]
theorem beq_int {x y : Int} (h : x = y) : (x == y) = true := by rw [h]; exact beq_self_eq_true y
theorem bne_int {x y : Int} (h : x ≠ y) : (x == y) = false := by rw [beq_eq_false_iff_ne]; exact h

end Go.Proofs.Ytakhjdodljhfmaa.Tx

/-
  Plain facts on tokens: which are right, which are fresh, how old they are. Nothing of the program is named here, but for what == says of keys. No conditions.
-/
import Derived.Test.YtojjfeebhjkdlaaBox0
namespace Go.Proofs.Ytojjfeebhjkdlaa.Tx

/-- A token's eleven cells. -/
structure TokV where
  s : Int
  b : Int
  l : Int
  m : Int
  x : BoxV
def TokV.zero : TokV := ⟨0, 0, 0, 0, .zero⟩
def TokV.cells (t : TokV) : List Value := .int .i64 t.s :: .int .i64 t.b :: .int .i64 t.l :: .int .i64 t.m :: t.x.cells
def TokV.val (t : TokV) : Value := .agg t.cells.toArray
/-- Is it right? -/
def tokOkB (t : TokV) : Bool := isDrawB t.s && (inB t.b 0 100000 && (inB t.l 1 1000 && (inB t.m 0 100 && boxOkB t.x)))
/-- Is it fresh, and how old is it? -/
def freshB (t : TokV) (now : Int) : Bool := tokOkB t && inB now t.b (t.b + t.l)
def ageV (t : TokV) (now : Int) : Int := if tokOkB t && (inB now 0 100000 && decide (t.b ≤ now)) then now - t.b else -1
theorem tok_range {t : TokV} (h : tokOkB t = true) : (1 ≤ t.s ∧ t.s ≤ 100000) ∧ (0 ≤ t.b ∧ t.b ≤ 100000) ∧ (1 ≤ t.l ∧ t.l ≤ 1000) ∧ (0 ≤ t.m ∧ t.m ≤ 100) ∧ boxOkB t.x = true := by
  simp only [tokOkB, Bool.and_eq_true] at h
  obtain ⟨h1, h2, h3, h4, h5⟩ := h
  simp only [isDrawB, Bool.and_eq_true, decide_eq_true_iff] at h1
  exact ⟨h1, inB_true h2, inB_true h3, inB_true h4, h5⟩

end Go.Proofs.Ytojjfeebhjkdlaa.Tx

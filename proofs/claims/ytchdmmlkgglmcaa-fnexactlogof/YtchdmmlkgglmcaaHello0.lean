/-
  Plain facts on greetings: which are right, which are without a token; and what == says of a greeting and one without a token, of a box and the zero box. No conditions.
-/
import Derived.Test.YtchdmmlkgglmcaaBox0
namespace Go.Proofs.Ytchdmmlkgglmcaa.Tx
open Go.RowKit

/-- A greeting's eighteen cells. -/
structure HelV where
  d : Int
  ag : Bool
  x : BoxV
  g : Int
  y : BoxV
  ea : Bool
def HelV.zero : HelV := ⟨0, false, .zero, 0, .zero, false⟩
def HelV.cells (q : HelV) : List Value := .int .i64 q.d :: .bool q.ag :: (q.x.cells ++ (.int .i64 q.g :: (q.y.cells ++ [.bool q.ea])))
def HelV.val (q : HelV) : Value := .agg q.cells.toArray
/-- Is it the zero box? -/
def BoxV.isZ (b : BoxV) : Bool := b.k.u == 0 && (b.k.s == 0 && (b.k.h == 0 && (b.k.a == 0 && (b.no == 0 && (b.t.toList.isEmpty && !b.sp)))))
/-- Is it without a token? -/
def bareB (q : HelV) : Bool := q.x.isZ && (q.g == 0 && (q.y.isZ && !q.ea))
/-- Is it right? -/
def helOkB (q : HelV) : Bool := isDrawB q.d && (!(q.ag && q.ea) && (bareB q || (boxOkB q.x && (boxOkB q.y && inB q.g 0 100000))))
/-- What is greeted without a token. -/
def helGr (d : Int) (ag : Bool) : HelV := ⟨d, ag, .zero, 0, .zero, false⟩
theorem gr_bare (d : Int) (ag : Bool) : bareB (helGr d ag) = true := by simp [bareB, helGr, BoxV.isZ, BoxV.zero, KeyV.zero, ByteArray.toList_eq]
theorem gr_ok (d : Int) (ag : Bool) : helOkB (helGr d ag) = isDrawB d := by rw [helOkB, gr_bare]; simp [helGr]
def helNew (d : Int) (ag : Bool) : HelV := if isDrawB d then helGr d ag else .zero

end Go.Proofs.Ytchdmmlkgglmcaa.Tx

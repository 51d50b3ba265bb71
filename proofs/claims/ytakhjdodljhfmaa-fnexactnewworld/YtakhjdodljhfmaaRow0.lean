/-
  Plain facts on rows: which are right, what is put, what is taken. Nothing of the program is named here, but for what == says of keys. No conditions.
-/
import Derived.Test.YtakhjdodljhfmaaBox0
namespace Go.Proofs.Ytakhjdodljhfmaa.Tx

/-- A row's five cells. -/
structure RowV where
  k : KeyV
  no : Int
def RowV.zero : RowV := ⟨.zero, 0⟩
def RowV.cells (r : RowV) : List Value := [.int .i64 r.k.u, .int .i64 r.k.s, .int .i64 r.k.h, .int .i64 r.k.a, .int .i64 r.no]
def RowV.val (r : RowV) : Value := .agg r.cells.toArray
/-- Is it right? Does it go on? -/
def rowOkB (r : RowV) : Bool := (r.k.same .zero || keyOkB r.k) && inB r.no 0 1000
def goesB (r : RowV) : Bool := !r.k.same .zero && decide (r.no < 1000)
/-- The row behind a put or a take that went well. -/
def RowV.on (r : RowV) : RowV := { r with no := r.no + 1 }
/-- Put. -/
def putB (r : RowV) (t : ByteArray) : Bool := rowOkB r && (boxOkB ⟨r.k, r.no, t, false⟩ && goesB r)
def putR (r : RowV) (t : ByteArray) : RowV := if rowOkB r then (if putB r t then r.on else r) else .zero
def putX (r : RowV) (t : ByteArray) : BoxV := if putB r t then ⟨r.k, r.no, t, false⟩ else .zero
/-- Take. -/
def takeB (r : RowV) (b : BoxV) : Bool := rowOkB r && (openB b r.k r.no && goesB r)
def takeR (r : RowV) (b : BoxV) : RowV := if rowOkB r then (if takeB r b then r.on else r) else .zero
def takeT (r : RowV) (b : BoxV) : ByteArray := if takeB r b then b.t else ⟨#[]⟩

theorem goes_range {r : RowV} (h : goesB r = true) (hr : rowOkB r = true) : 0 ≤ r.no ∧ r.no < 1000 := by
  simp only [goesB, rowOkB, Bool.and_eq_true, decide_eq_true_iff] at h hr
  exact ⟨(inB_true hr.2).1, h.2⟩

end Go.Proofs.Ytakhjdodljhfmaa.Tx

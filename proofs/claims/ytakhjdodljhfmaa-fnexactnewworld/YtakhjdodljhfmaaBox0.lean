/-
  Plain facts on boxes: which are right, what is locked, what is opened. Nothing of the program is named here, but for what == says of keys. No conditions.
-/
import Derived.Test.YtakhjdodljhfmaaEqV
namespace Go.Proofs.Ytakhjdodljhfmaa.Tx

/-- A box's seven cells. -/
structure BoxV where
  k : KeyV
  no : Int
  t : ByteArray
  sp : Bool
def BoxV.zero : BoxV := ⟨.zero, 0, ⟨#[]⟩, false⟩
def BoxV.cells (b : BoxV) : List Value := [.int .i64 b.k.u, .int .i64 b.k.s, .int .i64 b.k.h, .int .i64 b.k.a, .int .i64 b.no, .string b.t, .bool b.sp]
def BoxV.val (b : BoxV) : Value := .agg b.cells.toArray
/-- Is it right? -/
def boxOkB (b : BoxV) : Bool := keyOkB b.k && (inB b.no 0 1000 && decide (b.t.size ≤ 40))
/-- What is locked. -/
def lockV (b : BoxV) : BoxV := if boxOkB b then b else .zero
/-- Is it opened, and what is in it then? -/
def openB (b : BoxV) (k : KeyV) (no : Int) : Bool := boxOkB b && (!b.sp && (b.k.same k && b.no == no))
def openT (b : BoxV) (k : KeyV) (no : Int) : ByteArray := if openB b k no then b.t else ⟨#[]⟩
def BoxV.spoil (b : BoxV) : BoxV := { b with sp := true }
theorem boxOk_spoil (b : BoxV) : boxOkB b.spoil = boxOkB b := rfl

/-- Are two boxes the same? -/
theorem eq_box_self (u s h a no : Int) (t : ByteArray) (sp : Bool) (w : World) : (Op.equalIn 10000 71 (.agg #[.int .i64 u, .int .i64 s, .int .i64 h, .int .i64 a, .int .i64 no, .string t, .bool sp]) (.agg #[.int .i64 u, .int .i64 s, .int .i64 h, .int .i64 a, .int .i64 no, .string t, .bool sp])).run Try.prog w = .ok true w := by
  simp [go_sem]

theorem open_true {b : BoxV} {k : KeyV} {no : Int} (h : openB b k no = true) : b.k = k ∧ b.no = no ∧ b.sp = false ∧ openT b k no = b.t := by
  have h0 := h
  simp only [openB, Bool.and_eq_true, Bool.not_eq_true', beq_iff_eq] at h
  exact ⟨KeyV.same_iff.1 h.2.2.1, h.2.2.2, h.2.1, by simp [openT, h0]⟩
theorem open_false {b : BoxV} {k : KeyV} {no : Int} (h : openB b k no = false) : openT b k no = ⟨#[]⟩ := by simp [openT, h]
theorem open_spoilt (b : BoxV) (k : KeyV) (no : Int) : openB b.spoil k no = false := by simp [openB, BoxV.spoil]
theorem open_own {k : KeyV} {no : Int} {t : ByteArray} (h : boxOkB ⟨k, no, t, false⟩ = true) : openB ⟨k, no, t, false⟩ k no = true ∧ openT ⟨k, no, t, false⟩ k no = t := by
  have h1 : openB ⟨k, no, t, false⟩ k no = true := by simp [openB, h, KeyV.same_self]
  exact ⟨h1, by simp [openT, h1]⟩
theorem open_other {k k' : KeyV} {no : Int} {t : ByteArray} (h : k.s ≠ k'.s) : openB ⟨k, no, t, false⟩ k' no = false := by
  have : k.same k' = false := KeyV.same_not fun e => h (by rw [e])
  simp [openB, this]
theorem open_late {k : KeyV} {no no' : Int} {t : ByteArray} (h : no ≠ no') : openB ⟨k, no, t, false⟩ k no' = false := by simp [openB, h]
/-- What is left of a size. -/
def szLeft (left : Int) (n : Nat) : Int := if left - n < 0 then -1 else left - n

end Go.Proofs.Ytakhjdodljhfmaa.Tx

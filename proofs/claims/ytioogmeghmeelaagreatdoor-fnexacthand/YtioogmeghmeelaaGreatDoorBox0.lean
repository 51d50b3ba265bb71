/-
  What == says of two keys (and of two arrays of two numbers, where the program has that type). No conditions.
  Plain facts on boxes: which are right, what is locked, what is opened. Nothing of the program is named here, but for what == says of keys. No conditions.
-/
import Derived.WalkKit
import Derived.ChangeKeysEq
import Derived.Lib.Hide
import Derived.Test.YtioogmeghmeelaaGreatDoorKey0
import Derived.Test.YtioogmeghmeelaaGreatDoorProg
namespace Go.Proofs.YtioogmeghmeelaaGreatDoor.Tx
open Go.RowKit

/-- Are they the same? -/
def KeyV.same (k l : KeyV) : Bool := k.u == l.u && (k.s == l.s && (k.h == l.h && k.a == l.a))
theorem KeyV.same_iff {k l : KeyV} : k.same l = true ↔ k = l := by
  obtain ⟨u, s, h, a⟩ := k
  obtain ⟨u', s', h', a'⟩ := l
  simp [KeyV.same]
theorem KeyV.same_self (k : KeyV) : k.same k = true := KeyV.same_iff.2 rfl
theorem KeyV.same_not {k l : KeyV} (h : k ≠ l) : k.same l = false := by
  cases e : k.same l with
  | false => rfl
  | true => exact absurd (KeyV.same_iff.1 e) h

theorem eq_key (k l : KeyV) (w : World) : (Op.equalIn 10000 41 k.val l.val).run Tryz.prog w = .ok (k.same l) w := by
  obtain ⟨u, s, h, a⟩ := k
  obtain ⟨u', s', h', a'⟩ := l
  unfold KeyV.val KeyV.same
  cases h1 : u == u'
  · simp [go_sem, h1]
  cases h2 : s == s'
  · simp [go_sem, h1, h2]
  cases h3 : h == h'
  · simp [go_sem, h1, h2, h3]
  cases h4 : a == a' <;> simp [go_sem, h1, h2, h3, h4]

theorem eq_agg (u s h a u' s' h' a' : Int) (w : World) : (Op.equalIn 10000 41 (.agg #[.int .i64 u, .int .i64 s, .int .i64 h, .int .i64 a]) (.agg #[.int .i64 u', .int .i64 s', .int .i64 h', .int .i64 a'])).run Tryz.prog w = .ok (KeyV.same ⟨u, s, h, a⟩ ⟨u', s', h', a'⟩) w := eq_key ⟨u, s, h, a⟩ ⟨u', s', h', a'⟩ w

theorem eq_two (x y x' y' : Int) (w : World) : (Op.equalIn 10000 174 (.agg #[.int .i64 x, .int .i64 y]) (.agg #[.int .i64 x', .int .i64 y'])).run Tryz.prog w = .ok (x == x' && y == y') w := by
  obtain ⟨i, hi⟩ := Option.isSome_iff_exists.1 (show (Tryz.prog.info? 172).isSome = true by kernel_rfl)
  have hc : Tryz.prog.cellsOf 172 = 1 := by kernel_rfl
  rw [run_equalIn_array w 9999 (n := 2) (e := 172) _ _ (by kernel_rfl) hi]
  clear hi
  cases h1 : x == x'
  · simp [go_sem, Op.eqItems, List.range_succ, h1]
  · cases h2 : y == y' <;> simp [go_sem, Op.eqItems, List.range_succ, h1, h2, hc]

end Go.Proofs.YtioogmeghmeelaaGreatDoor.Tx
namespace Go.Proofs.YtioogmeghmeelaaGreatDoor.Tx

/-- A box's seven cells. -/
structure BoxV where
  k : KeyV
  no : Int
  t : ByteArray
  sp : Bool
def BoxV.zero : BoxV := ⟨.zero, 0, ⟨#[]⟩, false⟩
def BoxV.cells (b : BoxV) : List Value := [.int .i64 b.k.u, .int .i64 b.k.s, .int .i64 b.k.h, .int .i64 b.k.a, .int .i64 b.no, .string b.t, .bool b.sp]
def BoxV.val (b : BoxV) : Value := .agg b.cells.toArray
/-- Is it right? -/
def boxOkB (b : BoxV) : Bool := keyOkB b.k && (inB b.no 0 1000 && decide (b.t.size ≤ 40))
/-- What is locked. -/
def lockV (b : BoxV) : BoxV := if boxOkB b then b else .zero
/-- Is it opened, and what is in it then? -/
def openB (b : BoxV) (k : KeyV) (no : Int) : Bool := boxOkB b && (!b.sp && (b.k.same k && b.no == no))
def openT (b : BoxV) (k : KeyV) (no : Int) : ByteArray := if openB b k no then b.t else ⟨#[]⟩
def BoxV.spoil (b : BoxV) : BoxV := { b with sp := true }
theorem boxOk_spoil (b : BoxV) : boxOkB b.spoil = boxOkB b := rfl

/-- Are two boxes the same? -/
theorem eq_box_self (u s h a no : Int) (t : ByteArray) (sp : Bool) (w : World) : (Op.equalIn 10000 43 (.agg #[.int .i64 u, .int .i64 s, .int .i64 h, .int .i64 a, .int .i64 no, .string t, .bool sp]) (.agg #[.int .i64 u, .int .i64 s, .int .i64 h, .int .i64 a, .int .i64 no, .string t, .bool sp])).run Tryz.prog w = .ok true w := by
  simp [go_sem]

theorem open_true {b : BoxV} {k : KeyV} {no : Int} (h : openB b k no = true) : b.k = k ∧ b.no = no ∧ b.sp = false ∧ openT b k no = b.t := by
  have h0 := h
  simp only [openB, Bool.and_eq_true, Bool.not_eq_true', beq_iff_eq] at h
  exact ⟨KeyV.same_iff.1 h.2.2.1, h.2.2.2, h.2.1, by simp [openT, h0]⟩
theorem open_false {b : BoxV} {k : KeyV} {no : Int} (h : openB b k no = false) : openT b k no = ⟨#[]⟩ := by simp [openT, h]
theorem open_spoilt (b : BoxV) (k : KeyV) (no : Int) : openB b.spoil k no = false := by simp [openB, BoxV.spoil]
theorem open_own {k : KeyV} {no : Int} {t : ByteArray} (h : boxOkB ⟨k, no, t, false⟩ = true) : openB ⟨k, no, t, false⟩ k no = true ∧ openT ⟨k, no, t, false⟩ k no = t := by
  have h1 : openB ⟨k, no, t, false⟩ k no = true := by simp [openB, h, KeyV.same_self]
  exact ⟨h1, by simp [openT, h1]⟩
theorem open_other {k k' : KeyV} {no : Int} {t : ByteArray} (h : k.s ≠ k'.s) : openB ⟨k, no, t, false⟩ k' no = false := by
  have : k.same k' = false := KeyV.same_not fun e => h (by rw [e])
  simp [openB, this]
theorem open_late {k : KeyV} {no no' : Int} {t : ByteArray} (h : no ≠ no') : openB ⟨k, no, t, false⟩ k no' = false := by simp [openB, h]
/-- What is left of a size. -/
def szLeft (left : Int) (n : Nat) : Int := if left - n < 0 then -1 else left - n

end Go.Proofs.YtioogmeghmeelaaGreatDoor.Tx

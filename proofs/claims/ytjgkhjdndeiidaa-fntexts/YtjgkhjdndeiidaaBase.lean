/-
  Plain facts on lists, bytes and numbers that the texts of this seat use: nothing of the program is named here. No conditions.
-/
import Derived.WalkKit
namespace Go.Proofs.Ytjgkhjdndeiidaa.Tx

/-- Is it a byte of a text (a to z, 0 to 9)? -/
def tbI (c : Int) : Bool := (decide (97 ≤ c) && decide (c ≤ 122)) || (decide (48 ≤ c) && decide (c ≤ 57))
def tb (c : UInt8) : Bool := tbI (c.toNat : Int)
/-- Is it a text: 1 to 12 such bytes? -/
def textOk (s : ByteArray) : Bool := (decide (1 ≤ s.size) && decide (s.size ≤ 12)) && s.data.toList.all tb

theorem take_snoc (s : ByteArray) (k : Nat) (h : k < s.size) : s.data.toList.take (k + 1) = s.data.toList.take k ++ [s[k]] := by
  rw [List.take_succ_eq_append_getElem (by simpa using h)]; rfl

theorem textOk_small (s : ByteArray) (h : s.size < 1 ∨ 12 < s.size) : textOk s = false := by
  have : (decide (1 ≤ s.size) && decide (s.size ≤ 12)) = false := by
    rcases h with h | h <;> simp <;> omega
  simp [textOk, this]
theorem textOk_mid (s : ByteArray) (h1 : 1 ≤ s.size) (h2 : s.size ≤ 12) : textOk s = s.data.toList.all tb := by simp [textOk, h1, h2]

end Go.Proofs.Ytjgkhjdndeiidaa.Tx

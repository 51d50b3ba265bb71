/-
  What strconv.FormatInt answers at base ten. Conditions: the number is an int64; the library's table of powers of ten holds what its text lays in it.
-/
import Derived.Test.YtioogmeghmeelaaGreatDoorShelf
import Derived.Test.YtioogmeghmeelaaGreatDoorDigFacts
import Derived.Lib.AppendIntMem
namespace Go.Proofs.YtioogmeghmeelaaGreatDoor.Tx
open Go.RowKit

/-- The table of powers of ten holds what the library's text lays in it. -/
def Tab (w : World) : Prop := Lib.TabIs Tryz.prog w "internal/strconv.uint64pow10" .u64 Lib.pow10Tab
theorem Tab.on {w w' : World} (h : Tab w) (b : Below w.heap.size w w') : Tab w' := Lib.tabBelow_of_tabIs h w' b

theorem dec_lib : ∀ n k : Nat, k < n → 0 < k → digL k = Lib.decDigits k
  | 0, _, h, _ => absurd h (Nat.not_lt_zero _)
  | n + 1, k, h, h0 => by
    rw [digL_pos h0, Lib.decDigits]
    by_cases hk : k < 10
    · rw [dif_pos hk, Nat.div_eq_of_lt hk, digL_zero, Nat.mod_eq_of_lt hk]; rfl
    · rw [dif_neg hk, dec_lib n (k / 10) (by omega) (by omega)]
theorem decL_lib (k : Nat) : decL k = Lib.decDigits k := by
  by_cases h : k = 0
  · subst h; rw [decL_zero, Lib.decDigits]; rfl
  · rw [decL_pos (by omega)]; exact dec_lib (k + 1) k (by omega) (by omega)
theorem int_lib (n : Int) : (⟨(Lib.itoa n).toArray⟩ : ByteArray) = intT n := by
  have e : Lib.itoa n = (intT n).data.toList := by
    unfold Lib.itoa intT
    by_cases h : n < 0
    · rw [if_pos h, if_pos h, bytes_app, ← decL_lib]; rfl
    · rw [if_neg h, if_neg h, ← decL_lib]
      have : n.toNat = n.natAbs := by omega
      rw [this]; rfl
  rw [e]

theorem fmt_any (n : Int) (h : I64 n) (w : World) (ht : Tab w) : Calls Tryz.prog 111 #[.int .i64 n, .int .i64 10] w fun e w' => e = .returned (.string (intT n)) ∧ Below w.heap.size w w' :=
  (Any.strconv_FormatInt_10 fmtL n h.1 h.2 w ht).mono fun _ _ ⟨he, k, os, hw⟩ => ⟨by rw [he, int_lib], hw ▸ Lib.below_grow _ _ (Nat.le_refl _) k os⟩

end Go.Proofs.YtioogmeghmeelaaGreatDoor.Tx

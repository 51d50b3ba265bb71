/-
  What markWordS and heldWordS of the laws do: each cell of each word of a list is marked by its own number, and they are found so. Conditions: numbers from 0 to 2^62.
-/
import Derived.Test.YtioogmeghmeelaaMarkBox
import Derived.Test.YtioogmeghmeelaaRegionL
namespace Go.Proofs.Ytioogmeghmeelaa.Tx
open Go.RowKit

/-- A Word's kinds. -/
def wordKs : List FK := [.str, .bool]
theorem markWord_at (k j r : Nat) (hr : r < 2) : markF wordKs k (j * 2 + r) = markV (wordKs[r]?.getD .int) (k + (j * 2 + r)) := by
  have e : (j * 2 + r) % wordKs.length = r := by show (j * 2 + r) % 2 = r; omega
  rw [markF, e]



end Go.Proofs.Ytioogmeghmeelaa.Tx

/-
  An argument that is a row. No conditions.
-/
import Derived.Test.YthkgidibonkfbaaOpen4
import Derived.Test.YthkgidibonkfbaaRow0
namespace Go.Proofs.Ythkgidibonkfbaa.Tx
open Go.RowKit

theorem fits_row {cs : List Value} {ks : List FK} (h : Fits (.int :: .int :: .int :: .int :: .int :: ks) cs) : ∃ (r : RowV) (vs : List Value), cs = r.cells ++ vs ∧ Fits ks vs := by
  obtain ⟨k, _, rfl, h1⟩ := fits_key h
  obtain ⟨_, vs, rfl, ⟨n, rfl, _⟩, h2⟩ := fits_cons h1
  exact ⟨⟨k, n⟩, vs, rfl, h2⟩

section
variable {H : Type} {enc : TypeId × Value → H} {w : World} {base : Nat} {spare : Nat → Bool} {held : Bool} {r : Reach} {b0 : Nat} {v : Value} {dd : DataW H} {p : List MemPlace}
set_option maxRecDepth 100000 in
theorem open_row (hv : Value.okWide Try.prog w r b0 52 v) (h : DataW.Trod enc Try.prog w base spare held 52 v dd p) : ∃ b : RowV, v = b.val ∧ True := by
  obtain ⟨cs, rfl, hf⟩ := open_flat (d := 3) (ks := [.int, .int, .int, .int, .int]) Try.underlying52 (by kernel_rfl) (by kernel_rfl) hv h
  obtain ⟨b, vs, rfl, hn⟩ := fits_row hf
  obtain rfl := fits_nil hn
  exact ⟨b, by simp [RowV.val], trivial⟩
end

end Go.Proofs.Ythkgidibonkfbaa.Tx

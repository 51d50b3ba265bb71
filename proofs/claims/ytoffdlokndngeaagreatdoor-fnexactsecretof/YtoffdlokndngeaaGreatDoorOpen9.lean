/-
  An argument that is a greeting. No conditions.
-/
import Derived.Test.YtoffdlokndngeaaGreatDoorOpen4
import Derived.Test.YtoffdlokndngeaaGreatDoorHello0
namespace Go.Proofs.YtoffdlokndngeaaGreatDoor.Tx
open Go.RowKit

theorem fits_hel {cs : List Value} {ks : List FK} (h : Fits (.int :: .bool :: .int :: .int :: .int :: .int :: .int :: .str :: .bool :: .int :: .int :: .int :: .int :: .int :: .int :: .str :: .bool :: .bool :: ks) cs) : ∃ (q : HelV) (vs : List Value), cs = q.cells ++ vs ∧ (q.x.t.size ≤ maxLen ∧ q.y.t.size ≤ maxLen) ∧ Fits ks vs := by
  obtain ⟨_, _, rfl, ⟨d, rfl, _⟩, h1⟩ := fits_cons h
  obtain ⟨_, _, rfl, ⟨ag, rfl⟩, h2⟩ := fits_cons h1
  obtain ⟨x, _, rfl, hx, h3⟩ := fits_box h2
  obtain ⟨_, _, rfl, ⟨g, rfl, _⟩, h4⟩ := fits_cons h3
  obtain ⟨y, _, rfl, hy, h5⟩ := fits_box h4
  obtain ⟨_, vs, rfl, ⟨ea, rfl⟩, h6⟩ := fits_cons h5
  exact ⟨⟨d, ag, x, g, y, ea⟩, vs, by simp [HelV.cells], ⟨hx, hy⟩, h6⟩

section
variable {H : Type} {enc : TypeId × Value → H} {w : World} {base : Nat} {spare : Nat → Bool} {held : Bool} {r : Reach} {b0 : Nat} {v : Value} {dd : DataW H} {p : List MemPlace}
set_option maxRecDepth 100000 in
theorem open_hel (hv : Value.okWide Tryz.prog w r b0 54 v) (h : DataW.Trod enc Tryz.prog w base spare held 54 v dd p) : ∃ q : HelV, v = q.val ∧ q.x.t.size ≤ maxLen ∧ q.y.t.size ≤ maxLen := by
  obtain ⟨cs, rfl, hf⟩ := open_flat (d := 4) (ks := [.int, .bool, .int, .int, .int, .int, .int, .str, .bool, .int, .int, .int, .int, .int, .int, .str, .bool, .bool]) Tryz.underlying54 (by kernel_rfl) (by kernel_rfl) hv h
  obtain ⟨q, vs, rfl, ht, hn⟩ := fits_hel hf
  obtain rfl := fits_nil hn
  exact ⟨q, by simp [HelV.val], ht⟩
end

end Go.Proofs.YtoffdlokndngeaaGreatDoor.Tx

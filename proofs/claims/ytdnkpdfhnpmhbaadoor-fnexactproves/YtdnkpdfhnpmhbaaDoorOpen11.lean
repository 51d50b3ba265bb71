/-
  An argument that is an answer. No conditions.
-/
import Derived.Test.YtdnkpdfhnpmhbaaDoorOpen4
import Derived.Test.YtdnkpdfhnpmhbaaDoorAns0
namespace Go.Proofs.YtdnkpdfhnpmhbaaDoor.Tx
open Go.RowKit

theorem fits_ans {cs : List Value} {ks : List FK} (h : Fits (.int :: .int :: .int :: .int :: .int :: .int :: .int :: .int :: .str :: .bool :: ks) cs) : ∃ (q : AnsV) (vs : List Value), cs = q.cells ++ vs ∧ q.f.t.size ≤ maxLen ∧ Fits ks vs := by
  obtain ⟨_, _, rfl, ⟨d, rfl, _⟩, h1⟩ := fits_cons h
  obtain ⟨_, _, rfl, ⟨a, rfl, _⟩, h2⟩ := fits_cons h1
  obtain ⟨_, _, rfl, ⟨p, rfl, _⟩, h3⟩ := fits_cons h2
  obtain ⟨x, vs, rfl, hx, h4⟩ := fits_box h3
  exact ⟨⟨d, a, p, x⟩, vs, by simp [AnsV.cells], hx, h4⟩
/-- Its pick is an int64. -/
theorem fits_ans' {cs : List Value} (h : Fits [.int, .int, .int, .int, .int, .int, .int, .int, .str, .bool] cs) : ∃ q : AnsV, cs = q.cells ∧ q.f.t.size ≤ maxLen ∧ (Lit.int .i64 q.p).wf = true := by
  obtain ⟨_, _, rfl, ⟨d, rfl, _⟩, h1⟩ := fits_cons h
  obtain ⟨_, _, rfl, ⟨a, rfl, _⟩, h2⟩ := fits_cons h1
  obtain ⟨_, _, rfl, ⟨p, rfl, hp⟩, h3⟩ := fits_cons h2
  obtain ⟨x, vs, rfl, hx, h4⟩ := fits_box h3
  obtain rfl := fits_nil h4
  exact ⟨⟨d, a, p, x⟩, by simp [AnsV.cells], hx, hp⟩

section
variable {H : Type} {enc : TypeId × Value → H} {w : World} {base : Nat} {spare : Nat → Bool} {held : Bool} {r : Reach} {b0 : Nat} {v : Value} {dd : DataW H} {p : List MemPlace}
set_option maxRecDepth 100000 in
theorem open_ans (hv : Value.okWide Tryd.prog w r b0 44 v) (h : DataW.Trod enc Tryd.prog w base spare held 44 v dd p) : ∃ q : AnsV, v = q.val ∧ q.f.t.size ≤ maxLen ∧ (Lit.int .i64 q.p).wf = true := by
  obtain ⟨cs, rfl, hf⟩ := open_flat (d := 4) (ks := [.int, .int, .int, .int, .int, .int, .int, .int, .str, .bool]) Tryd.underlying44 (by kernel_rfl) (by kernel_rfl) hv h
  obtain ⟨q, rfl, ht, hp⟩ := fits_ans' hf
  exact ⟨q, rfl, ht, hp⟩
end

end Go.Proofs.YtdnkpdfhnpmhbaaDoor.Tx

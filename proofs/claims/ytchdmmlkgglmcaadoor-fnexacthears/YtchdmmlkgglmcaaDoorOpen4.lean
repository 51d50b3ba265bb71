/-
  An argument that is a box. No conditions.
-/
import Derived.Test.YtchdmmlkgglmcaaDoorFlat
import Derived.Test.YtchdmmlkgglmcaaDoorBox0
import Derived.Test.YtchdmmlkgglmcaaDoorProg
namespace Go.Proofs.YtchdmmlkgglmcaaDoor.Tx
open Go.RowKit

theorem fits_cons {k : FK} {ks : List FK} : ∀ {cs : List Value}, Fits (k :: ks) cs → ∃ v vs, cs = v :: vs ∧ k.fits v ∧ Fits ks vs
  | [], h => h.elim
  | v :: vs, h => ⟨v, vs, rfl, h.1, h.2⟩
theorem fits_key {cs : List Value} {ks : List FK} (h : Fits (.int :: .int :: .int :: .int :: ks) cs) : ∃ (k : KeyV) (vs : List Value), cs = .int .i64 k.u :: .int .i64 k.s :: .int .i64 k.h :: .int .i64 k.a :: vs ∧ Fits ks vs := by
  obtain ⟨_, _, rfl, ⟨u, rfl, _⟩, h1⟩ := fits_cons h
  obtain ⟨_, _, rfl, ⟨s, rfl, _⟩, h2⟩ := fits_cons h1
  obtain ⟨_, _, rfl, ⟨x, rfl, _⟩, h3⟩ := fits_cons h2
  obtain ⟨_, vs, rfl, ⟨a, rfl, _⟩, h4⟩ := fits_cons h3
  exact ⟨⟨u, s, x, a⟩, vs, rfl, h4⟩
theorem fits_box {cs : List Value} {ks : List FK} (h : Fits (.int :: .int :: .int :: .int :: .int :: .str :: .bool :: ks) cs) : ∃ (b : BoxV) (vs : List Value), cs = b.cells ++ vs ∧ b.t.size ≤ maxLen ∧ Fits ks vs := by
  obtain ⟨k, _, rfl, h1⟩ := fits_key h
  obtain ⟨_, _, rfl, ⟨n, rfl, _⟩, h2⟩ := fits_cons h1
  obtain ⟨_, _, rfl, ⟨t, rfl, ht⟩, h3⟩ := fits_cons h2
  obtain ⟨_, vs, rfl, ⟨b, rfl⟩, h4⟩ := fits_cons h3
  exact ⟨⟨k, n, t, b⟩, vs, rfl, ht, h4⟩
theorem fits_nil {cs : List Value} (h : Fits [] cs) : cs = [] := by
  cases cs with
  | nil => rfl
  | cons _ _ => exact h.elim

section
variable {H : Type} {enc : TypeId × Value → H} {w : World} {base : Nat} {spare : Nat → Bool} {held : Bool} {r : Reach} {b0 : Nat} {v : Value} {dd : DataW H} {p : List MemPlace}
set_option maxRecDepth 100000 in
theorem open_box (hv : Value.okWide Tryd.prog w r b0 58 v) (h : DataW.Trod enc Tryd.prog w base spare held 58 v dd p) : ∃ b : BoxV, v = b.val ∧ b.t.size ≤ maxLen := by
  obtain ⟨cs, rfl, hf⟩ := open_flat (d := 3) (ks := [.int, .int, .int, .int, .int, .str, .bool]) Tryd.underlying58 (by kernel_rfl) (by kernel_rfl) hv h
  obtain ⟨b, vs, rfl, ht, hn⟩ := fits_box hf
  obtain rfl := fits_nil hn
  exact ⟨b, by simp [BoxV.val], ht⟩
end

end Go.Proofs.YtchdmmlkgglmcaaDoor.Tx

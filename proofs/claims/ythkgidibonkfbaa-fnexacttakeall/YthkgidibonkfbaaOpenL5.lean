/-
  An argument that is a list of boxes. No conditions.
-/
import Derived.Test.YthkgidibonkfbaaOpen4
import Derived.Test.YthkgidibonkfbaaBoxes
namespace Go.Proofs.Ythkgidibonkfbaa.Tx
open Go.RowKit

section
variable {H : Type} {enc : TypeId × Value → H} {w : World} {base : Nat} {spare : Nat → Bool} {held : Bool} {fuel : Nat} {cs : List Value} {x : DataW H × List MemPlace}
set_option maxRecDepth 100000 in
theorem open_boxes (h : DataW.trod enc Try.prog w base spare held fuel 67 cs = some x) :
    ∃ (A : Option Addr) (len cap : Nat) (bs : List BoxV), cs = [.slice A len cap] ∧ Bxs w w.heap.size A len bs ∧ len ≤ maxLen ∧ ∀ b ∈ bs, b.t.size ≤ maxLen := by
  obtain ⟨A, len, cap, rfl, hl, hc⟩ := open_flats (d := 3) (sz := 7) (ks := [.int, .int, .int, .int, .int, .str, .bool]) Try.underlying67 (by kernel_rfl) (by kernel_rfl) (by kernel_rfl) (by omega) h
  by_cases h0 : 0 < len
  · obtain ⟨b, off, hA, hb, hj⟩ := hc h0
    obtain ⟨bs, hbl, hbs⟩ := choose_list BoxV.zero (fun j q => BoxAt w b (off + j * 7) q ∧ q.t.size ≤ maxLen) len (fun j hlt => by
      obtain ⟨vs, hf, _, hv⟩ := hj j hlt
      obtain ⟨q, us, rfl, ht, hn⟩ := fits_box hf
      obtain rfl := fits_nil hn
      rw [List.append_nil] at hv
      exact ⟨q, ⟨hv 0 _ rfl, hv 1 _ rfl, hv 2 _ rfl, hv 3 _ rfl, hv 4 _ rfl, hv 5 _ rfl, hv 6 _ rfl⟩, ht⟩)
    refine ⟨A, len, cap, bs, rfl, ⟨hbl, fun _ => ⟨b, off, hA, hb, fun j hlt => (hbs j hlt).1⟩⟩, hl, fun q hq => ?_⟩
    obtain ⟨j, hlt, e⟩ := List.getElem_of_mem hq
    have := (hbs j (by omega)).2
    rw [List.getElem?_eq_getElem hlt, Option.getD_some, e] at this
    exact this
  · obtain rfl : len = 0 := by omega
    exact ⟨A, 0, cap, [], rfl, ⟨rfl, fun h => absurd h (by omega)⟩, hl, fun _ h => by cases h⟩
end

end Go.Proofs.Ythkgidibonkfbaa.Tx

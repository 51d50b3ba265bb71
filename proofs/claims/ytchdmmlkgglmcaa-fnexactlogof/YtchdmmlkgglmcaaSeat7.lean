/-
  Strings that a call made, as the laws' helpers take them. No conditions.
-/
import Derived.Test.YtchdmmlkgglmcaaSeat6
import Derived.Test.YtchdmmlkgglmcaaSeat4
namespace Go.Proofs.Ytchdmmlkgglmcaa.Tx
open Go.RowKit

theorem EltsO.strs {w : World} {B n : Nat} {A : Option Addr} {ss : List ByteArray} (h : EltsO w B A n ss) : Strs w B A n ss := ⟨h.1, fun hn => by
  obtain ⟨b, off, e, hb, hc⟩ := h.2 hn
  refine ⟨b, off, e, hb, fun j hj => ?_⟩
  have hj' : j < ss.length := by rw [h.1]; exact hj
  have h1 := hc j ss[j] (List.getElem?_eq_getElem hj') 0 _ rfl
  rw [List.getElem?_eq_getElem hj', Option.getD_some]
  simpa [Cells.sz] using h1⟩
theorem eqStrs_same {w : World} {A B : Option Addr} {n ca cb : Nat} {ss : List ByteArray} (hA : EltsO w w.heap.size A n ss) (hB : EltsO w w.heap.size B n ss) (hn : n ≤ 1048576) :
    Calls Try.prog 18 #[.slice A n ca, .slice B n cb] w fun e w' => e = .returned (.bool true) ∧ Below w.heap.size w w' := by
  refine (eqStringS_any A B n n ca cb ss ss w hA.strs hB.strs hn hn).mono ?_
  rintro e w' ⟨he, q, rfl⟩
  exact ⟨by rw [he]; simp, ⟨rfl, rfl, rfl, Nat.le_refl _, fun _ _ => rfl⟩⟩
end Go.Proofs.Ytchdmmlkgglmcaa.Tx

/-
  An argument that is a Memory. No conditions.
-/
import Derived.ProofKit
import Derived.WalkKit
import Derived.OpenShut
import Derived.Lib.SmallJoins
import Derived.Test.YtdpdbidjbidmaaaNums
import Derived.Test.YtdpdbidjbidmaaaMem0
namespace Go.Proofs.Ytdpdbidjbidmaaa.Tx
open Go.RowKit Go.ChangeShapes Go.WideShapes

section
variable {H : Type} {enc : TypeId × Value → H} {w : World} {base b0 : Nat} {r : Reach} {held : Bool} {v : Value} {d : DataW H} {p : List MemPlace}
set_option maxRecDepth 100000 in
theorem open_mem (hv : Value.okWide Try.prog w r b0 40 v) (h : DataW.Trod enc Try.prog w base (fun _ => true) held 40 v d p) :
    ∃ (A : Option Addr) (n cap : Nat) (zs : List Int) (s : Int), v = .agg #[.slice A n cap, .int .i64 s] ∧ Nums w w.heap.size A n zs ∧ n ≤ maxLen ∧ AllI64 zs := by
  obtain ⟨c0, c1, y0, y1, m, rfl, _, _, h0, h1⟩ := Go.Joins.open_agg2 Try.underlying40 (by kernel_rfl) (by kernel_rfl) hv h
  obtain ⟨s, e1, _, _⟩ := DataW.trod_int Try.underlying2 h1
  simp only [List.cons.injEq, and_true] at e1
  subst e1
  rcases open_ints Try.underlying24 Try.underlying2 (by kernel_rfl) h0 with ⟨hcs, _⟩ | ⟨x, l, c, zs, hcs, _, hl, hm, hz, _, hcell, hwz⟩
  · simp at hcs
    subst hcs
    exact ⟨none, 0, 0, [], s, rfl, nums_nil _ _ _, by unfold maxLen; omega, allI64_nil⟩
  · simp at hcs
    subst hcs
    simp only [if_true] at hz
    exact ⟨some x, l, c, zs.take l, s, rfl, nums_of_open (by omega) hcell, by omega, fun z hz' => hwz z (List.mem_of_mem_take hz')⟩
end

end Go.Proofs.Ytdpdbidjbidmaaa.Tx

/-
  A slice that the call made, of elements of any size. Nothing of the program is named here. No conditions.
-/
import Derived.Deep.OwnRows
import Derived.Test.YtakhjdodljhfmaaBlk
namespace Go.Proofs.Ytakhjdodljhfmaa.Tx
open Go.RowKit

/-- The slice of n elements of type e, sz cells each, in block gb (from base on), whose cells are vs. -/
structure MadeG (w : World) (base : Nat) (e : TypeId) (sz n : Nat) (vs : List Value) (gb cb : Nat) : Prop where
  own : w.ownsRow base e sz (.slice (some ⟨gb, 0, none⟩) n cb) n vs
section
variable {w w' : World} {B : Nat} {e : TypeId} {sz n : Nat} {vs : List Value} {gb cb : Nat}
theorem MadeG.base (h : MadeG w B e sz n vs gb cb) : B ≤ gb ∧ gb < w.heap.size := h.own.lt gb rfl
theorem MadeG.len (h : MadeG w B e sz n vs gb cb) : vs.length = n * sz := h.own.1
theorem MadeG.kept {row : Option Nat} (h : MadeG w B e sz n vs gb cb) (hg : w.grownBy w' row) (hne : some gb ≠ row) : MadeG w' B e sz n vs gb cb := ⟨h.own.kept hg (.inr hne)⟩
theorem MadeG.alloc (h : MadeG w B e sz n vs gb cb) (o : Obj) : MadeG (w.alloc o) B e sz n vs gb cb := ⟨h.own.alloc o⟩
theorem MadeG.heap (h : MadeG w B e sz n vs gb cb) (he : w'.heap[gb]? = w.heap[gb]?) : MadeG w' B e sz n vs gb cb := by
  refine ⟨⟨h.own.1, ?_⟩⟩
  rcases h.own.2 with ⟨e, _⟩ | ⟨g, cap, cur, hv, hg, hh, r⟩
  · cases e
  · refine .inr ⟨g, cap, cur, hv, hg, ?_, r⟩
    injection hv with hv _ _
    injection hv with hv
    injection hv with hv _ _
    subst hv
    exact he.trans hh
theorem MadeG.below (h : MadeG w B e sz n vs gb cb) (b : Below w.heap.size w w') : MadeG w' B e sz n vs gb cb := h.heap (b.block gb h.base.2)
theorem MadeG.mono {base' : Nat} (h : MadeG w B e sz n vs gb cb) (hb : base' ≤ B) : MadeG w base' e sz n vs gb cb := by
  refine ⟨⟨h.own.1, ?_⟩⟩
  rcases h.own.2 with h2 | ⟨g, cap, cur, hv, hg, r⟩
  · exact .inl h2
  · exact .inr ⟨g, cap, cur, hv, Nat.le_trans hb hg, r⟩
theorem MadeG.cell (h : MadeG w B e sz n vs gb cb) {j : Nat} {u : Value} (hu : vs[j]? = some u) : w.cell? ⟨gb, j, none⟩ = some u := by
  have := h.own.cells (g := gb) rfl j u hu
  rwa [Go.WideShapes.add_plain, Nat.zero_add] at this
theorem MadeG.cap (h : MadeG w B e sz n vs gb cb) : n ≤ cb ∧ cb ≤ maxLen := by
  rcases h.own.2 with ⟨e, _⟩ | ⟨g, cap, cur, e, _, _, h1, h2, _⟩
  · cases e
  · cases e; exact ⟨h1, h2⟩
/-- An empty one. -/
theorem madeG_nil (hblk : w.heap[gb]? = some (.cells #[] e (0, 0))) (hb : B ≤ gb) : MadeG w B e sz 0 [] gb 0 :=
  ⟨⟨by simp, .inr ⟨gb, 0, #[], rfl, hb, hblk, Nat.le_refl _, Nat.zero_le _, by simp, by simp⟩⟩⟩
/-- Behind an append. -/
theorem madeG_of {v : Value} (h : w.ownsRow B e sz v n vs) (hn : 0 < n) : ∃ gb cb, v = .slice (some ⟨gb, 0, none⟩) n cb ∧ MadeG w B e sz n vs gb cb := by
  rcases h.2 with ⟨_, e⟩ | ⟨g, cap, cur, e, _⟩
  · omega
  · exact ⟨g, cap, e, ⟨e ▸ h⟩⟩
/-- Its cells are there, and may be written. -/
theorem MadeG.room (h : MadeG w B e sz n vs gb cb) : ∀ t, t < n * sz → (∃ v, w.cell? ⟨gb, t, none⟩ = some v) ∧ w.frozen? ⟨gb, t, none⟩ = false := fun t ht => by
  refine ⟨⟨vs[t]'(by rw [h.len]; exact ht), h.cell (List.getElem?_eq_getElem _)⟩, ?_⟩
  rcases h.own.2 with ⟨e, _⟩ | ⟨g, cap, cur, e, _, hh, _⟩
  · cases e
  · cases e; exact blk_frozen hh t
end

theorem cells_new (w : World) (cs : List Value) (t : TypeId) : ∀ j u, cs[j]? = some u → (w.alloc (.cells cs.toArray t)).cell? ((⟨w.heap.size, 0, none⟩ : Addr).add j) = some u := fun j u h => by
  rw [Go.WideShapes.add_plain, Nat.zero_add, blk_cell (heap1 w _)]
  simpa using h
theorem setAll_off {g k : Nat} (h : k ≠ g) : ∀ (vs : List Value) (o : Nat) {w : World}, (setAll w g o vs).heap[k]? = w.heap[k]?
  | [], _, _ => rfl
  | v :: r, o, w => (setAll_off h r (o + 1)).trans (Below.heap_setCell w ⟨g, o, none⟩ v k h)
theorem take_over {α : Type} (L cs : List α) (o N : Nat) (h : o + cs.length ≤ N) (hN : N ≤ L.length) : (L.take o ++ (cs ++ L.drop (o + cs.length))).take N = (L.take N).take o ++ (cs ++ (L.take N).drop (o + cs.length)) := by
  refine List.ext_getElem? fun i => ?_
  by_cases h1 : i < o
  · rw [List.getElem?_take_of_lt (by omega), List.getElem?_append_left (by simp; omega), List.getElem?_take_of_lt h1, List.getElem?_append_left (by simp; omega), List.getElem?_take_of_lt h1, List.getElem?_take_of_lt (by omega)]
  · by_cases h2 : i < o + cs.length
    · rw [List.getElem?_take_of_lt (by omega), List.getElem?_append_right (by simp; omega), List.getElem?_append_left (by simp; omega), List.getElem?_append_right (by simp; omega), List.getElem?_append_left (by simp; omega)]
      simp only [List.length_take]
      congr 1
      omega
    · by_cases h3 : i < N
      · rw [List.getElem?_take_of_lt h3, List.getElem?_append_right (by simp; omega), List.getElem?_append_right (by simp; omega), List.getElem?_append_right (by simp; omega), List.getElem?_append_right (by simp; omega), List.getElem?_drop, List.getElem?_drop, List.getElem?_take_of_lt (by simp only [List.length_take]; omega)]
        simp only [List.length_take]
        congr 1
        omega
      · rw [List.getElem?_eq_none (by simp; omega), List.getElem?_eq_none (by simp; omega)]
/-- Some of its cells are written. -/
theorem MadeG.put {w : World} {B : Nat} {e : TypeId} {sz n : Nat} {vs : List Value} {gb cb : Nat} (h : MadeG w B e sz n vs gb cb) (o : Nat) (cs : List Value) (ho : o + cs.length ≤ n * sz) :
    MadeG (setAll w gb o cs) B e sz n (vs.take o ++ (cs ++ vs.drop (o + cs.length))) gb cb := by
  have hl := h.len
  rcases h.own.2 with ⟨e, _⟩ | ⟨g, cap, cur, hv, hg, hh, h1, h2, h3, h4⟩
  · cases e
  · cases hv
    have hcap : n * sz ≤ cb * sz := Nat.mul_le_mul_right _ h1
    refine ⟨⟨by simp [hl]; omega, .inr ⟨gb, cb, overA cur o cs, rfl, hg, setAll_blk cs o hh, h1, h2, ?_, ?_⟩⟩⟩
    · have := congrArg List.length (overA_toList cs o cur (by omega))
      simp at this
      omega
    · rw [overA_toList cs o cur (by omega), take_over _ _ _ _ ho (by simp; omega), h4]

end Go.Proofs.Ytakhjdodljhfmaa.Tx

/-
  An inn as a call hands it back: where it lies, its blocks in a list; how long its lists may be. No conditions.
-/
import Derived.Test.YtakhjdodljhfmaaInn4
import Derived.Test.YtakhjdodljhfmaaInnFacts
namespace Go.Proofs.Ytakhjdodljhfmaa.Tx
open Go.RowKit

theorem lt_same {w w' : World} {g : Nat} (h : g < w.heap.size) (e : w'.heap[g]? = w.heap[g]?) : g < w'.heap.size := by
  rw [Array.getElem?_eq_getElem h] at e
  exact (Array.getElem?_eq_some_iff.1 e).1
section
variable {w w' : World} {base n : Nat} {A : Option Addr}
theorem EltsO.same' {α : Type} [Cells α] {l : List α} (h : EltsO w w.heap.size A n l) (he : ∀ k, blkA A = some k → w'.heap[k]? = w.heap[k]?) : EltsO w' w'.heap.size A n l := ⟨h.1, fun hn => by
  obtain ⟨b, off, e, hb, hc⟩ := h.2 hn
  subst e
  exact ⟨b, off, rfl, lt_same hb (he b rfl), fun j a ha => (hc j a ha).heap (he b rfl)⟩⟩
theorem HeldL.heap' (h : HeldL w base A n) (he : ∀ k, blkA A = some k → w'.heap[k]? = w.heap[k]?) : HeldL w' base A n := by
  rcases h with h | ⟨g, rfl, h1, h2, h3⟩
  · exact .inl h
  · exact .inr ⟨g, rfl, h1, lt_same h2 (he g rfl), h3.heap (he g rfl)⟩
theorem HeldS.heap' {hs : List SeatH} {ss : List SeatL} (h : HeldS w base A n hs ss) (he : ∀ k, FootS A hs k → w'.heap[k]? = w.heap[k]?) : HeldS w' base A n hs ss := by
  refine ⟨h.len, h.len2, ?_, fun j x q hx hq => ?_, h.apart⟩
  · rcases h.front with h1 | ⟨g, rfl, h1, h2, h3, h4⟩
    · exact .inl h1
    · exact .inr ⟨g, rfl, h1, lt_same h2 (he g (.inl rfl)), h3.heap (he g (.inl rfl)), fun j x hx => (h4 j x hx).heap (he g (.inl rfl))⟩
  · obtain ⟨h1, h2, h3, h4⟩ := h.log j x q hx hq
    exact ⟨h1, h2.same' (fun k e => he k (.inr ⟨j, x, hx, e⟩)), h3.heap' (fun k e => he k (.inr ⟨j, x, hx, e⟩)), h4⟩
theorem HeldI.heap' {i : InnH} {zs : List Int} {ss : List SeatL} (h : HeldI w base i zs ss) (he : ∀ k, FootI i k → w'.heap[k]? = w.heap[k]?) : HeldI w' base i zs ss :=
  ⟨h.mem.heap fun k e => he k (.inl e), h.seats.heap' (fun k e => he k (.inr e)), h.apart⟩
theorem nil_cap {zs : List Int} {c : Nat} (h : OwnN w base zs A n c) : A = none → c = 0 := fun e => by
  rcases h.form with ⟨_, _, h1⟩ | ⟨g, h1⟩
  · exact h1
  · rw [h1] at e; cases e
end
/-- Where an inn lies, without how long its lists are. -/
structure InnT where
  MA : Option Addr
  mc : Nat
  A : Option Addr
  c : Nat
  hs : List SeatH
def InnT.inn (z : InnT) (m n : Nat) : InnH := ⟨z.MA, m, z.mc, z.A, n, z.c, z.hs⟩
def InnT.nil : InnT := ⟨none, 0, none, 0, []⟩
def InnT.own (z : InnT) : List Nat := (blkN z.MA).toList ++ ((blkA z.A).toList ++ z.hs.filterMap fun x => blkA x.A)
theorem InnT.foot {z : InnT} {m n k : Nat} : k ∈ z.own ↔ FootI (z.inn m n) k := by
  rw [InnT.own, List.mem_append, List.mem_append, Option.mem_toList, Option.mem_toList, List.mem_filterMap]
  constructor
  · rintro (h | h | ⟨x, hx, h⟩)
    · exact .inl h
    · exact .inr (.inl h)
    · obtain ⟨j, hj⟩ := List.mem_iff_getElem?.1 hx
      exact .inr (.inr ⟨j, x, hj, h⟩)
  · rintro (h | h | ⟨j, x, hx, h⟩)
    · exact .inl h
    · exact .inr (.inl h)
    · exact .inr (.inr ⟨x, List.mem_of_getElem? hx, h⟩)
theorem HeldS.small {w : World} {base n N : Nat} {A : Option Addr} {hs : List SeatH} {ss : List SeatL} (h : HeldS w base A n hs ss) (hl : ∀ q ∈ ss, q.l.length ≤ N) : ∀ x ∈ hs, x.n ≤ N := fun x hx => by
  obtain ⟨j, hj⟩ := List.mem_iff_getElem?.1 hx
  have hlt : j < ss.length := by rw [h.len2, ← h.len]; exact (List.getElem?_eq_some_iff.1 hj).1
  have h1 := (h.log j x _ hj (List.getElem?_eq_getElem hlt)).2.1.1
  rw [← h1]
  exact hl _ (List.getElem_mem _)
theorem hand_small {zs : List Int} {t : Int} {ss : List SeatL} (k : Int) (b : BoxV) (hl : ∀ q ∈ ss, q.l.length ≤ 1048576) : (handZ zs t ss).length ≤ zs.length ∧ (handL zs t ss k b).length ≤ ss.length ∧ ∀ q ∈ handL zs t ss k b, q.l.length ≤ 1048576 := by
  refine ⟨?_, ?_, ?_⟩
  · rw [handZ]; split
    · exact Nat.le_refl _
    · exact Nat.zero_le _
  · rw [handL]; split
    · rw [handRaw]; split
      · rw [List.length_set]; exact Nat.le_refl _
      · exact Nat.le_refl _
    · exact Nat.zero_le _
  · intro q hq
    rw [handL] at hq
    split at hq
    · rw [handRaw] at hq
      split at hq
      · rename_i q0 hq0
        have h0 : q0 ∈ ss := by
          rw [seatAt] at hq0
          split at hq0
          · exact List.mem_of_getElem? hq0
          · cases hq0
        rcases List.mem_or_eq_of_mem_set hq with hq | rfl
        · exact hl q hq
        · exact hearL_length _ _ _ (hl q0 h0)
      · exact hl q hq
    · cases hq
theorem fall_small {zs : List Int} {t : Int} {ss : List SeatL} (now : Int) (hl : ∀ q ∈ ss, q.l.length ≤ 1048576) : (fallZ zs t ss now).length ≤ zs.length ∧ (fallL zs t ss now).length ≤ ss.length ∧ ∀ q ∈ fallL zs t ss now, q.l.length ≤ 1048576 := by
  refine ⟨?_, ?_, ?_⟩
  · rw [fallZ]; split
    · exact Nat.le_refl _
    · exact Nat.zero_le _
  · rw [fallL]; split
    · exact Nat.le_refl _
    · exact Nat.zero_le _
  · intro q hq
    rw [fallL] at hq
    split at hq
    · exact hl q hq
    · cases hq

end Go.Proofs.Ytakhjdodljhfmaa.Tx

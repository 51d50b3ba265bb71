/-
  What the model's NewMemory, MayHear and Noted answer. Condition: the list has at most 1048576 numbers, and a nil list has no room.
  What the model's MayHear and Noted answer. Condition: the list has at most 1048576 numbers, and a nil list has no room.
  What the model's Noted answers. Condition: the list has at most 1048576 numbers, and a nil list has no room.
-/
import Derived.Test.YtakhjdodljhfmaaMem3
import Derived.Deep.RegionWith
namespace Go.Proofs.Ytakhjdodljhfmaa.Tx
open Go.RowKit

/-- A Memory that the call made, and a flag. -/
def MemOut (zs : List Int) (s : Int) (b : Bool) (w : World) (e : Ending) (w' : World) : Prop :=
  ∃ (A : Option Addr) (n cap : Nat), e = .returned (.tuple #[.agg #[.slice A n cap, .int .i64 s], .bool b]) ∧ OwnN w' w.heap.size zs A n cap ∧ Below w.heap.size w w'


theorem stays_row {W : World} {L : List Nat} {e : TypeId} {sz n gb cb : Nat} {xs : List Value} : Stays (plainEnv W L) (fun w => w.ownsRow W.heap.size e sz (.slice (some ⟨gb, 0, none⟩) n cb) n xs) := fun w w' hc h b => by
  refine ⟨h.1, ?_⟩
  rcases h.2 with ⟨e, _⟩ | ⟨g, cap, cur, hv, hg, hh, r⟩
  · cases e
  · exact .inr ⟨g, cap, cur, hv, hg, (plainEnv W L).blk hc b (.inl hg) hh, r⟩
theorem away_row {base g0 : Nat} (hg0 : g0 < base) {e : TypeId} {sz n gb cb : Nat} {xs : List Value} : Away g0 (fun w => w.ownsRow base e sz (.slice (some ⟨gb, 0, none⟩) n cb) n xs) := fun w w' hw h => by
  refine ⟨h.1, ?_⟩
  rcases h.2 with ⟨e, _⟩ | ⟨g, cap, cur, hv, hg, hh, r⟩
  · cases e
  · exact .inr ⟨g, cap, cur, hv, hg, (hw g (blk_in hh) (by omega)).trans hh, r⟩

end Go.Proofs.Ytakhjdodljhfmaa.Tx
namespace Go.Proofs.Ytakhjdodljhfmaa.Tx
open Go.RowKit

theorem hear_bad {zs : List Int} {s x said now : Int} (h : askB zs s x said now = false) : hearI zs s x said now = 5 := if_pos h
theorem hear_young {zs : List Int} {s x said now : Int} (h : askB zs s x said now = true) (h1 : now ≤ s + 61) : hearI zs s x said now = 1 := by unfold hearI; rw [if_neg (by rw [h]; decide), if_pos h1]
theorem hear_stale {zs : List Int} {s x said now : Int} (h : askB zs s x said now = true) (h1 : ¬ now ≤ s + 61) (h2 : now + 30 < said ∨ said < now - 30) : hearI zs s x said now = 2 := by unfold hearI; rw [if_neg (by rw [h]; decide), if_neg h1, if_pos h2]
theorem hear_seen {zs : List Int} {s x said now : Int} (h : askB zs s x said now = true) (h1 : ¬ now ≤ s + 61) (h2 : ¬ (now + 30 < said ∨ said < now - 30)) (h3 : x ∈ zs) : hearI zs s x said now = 3 := by unfold hearI; rw [if_neg (by rw [h]; decide), if_neg h1, if_neg h2, if_pos h3]
theorem hear_full {zs : List Int} {s x said now : Int} (h : askB zs s x said now = true) (h1 : ¬ now ≤ s + 61) (h2 : ¬ (now + 30 < said ∨ said < now - 30)) (h3 : ¬ x ∈ zs) (h4 : zs.length = 6) : hearI zs s x said now = 4 := by unfold hearI; rw [if_neg (by rw [h]; decide), if_neg h1, if_neg h2, if_neg h3, if_pos h4]
theorem hear_yes {zs : List Int} {s x said now : Int} (h : askB zs s x said now = true) (h1 : ¬ now ≤ s + 61) (h2 : ¬ (now + 30 < said ∨ said < now - 30)) (h3 : ¬ x ∈ zs) (h4 : ¬ zs.length = 6) : hearI zs s x said now = 0 := by unfold hearI; rw [if_neg (by rw [h]; decide), if_neg h1, if_neg h2, if_neg h3, if_neg h4]

end Go.Proofs.Ytakhjdodljhfmaa.Tx
namespace Go.Proofs.Ytakhjdodljhfmaa.Tx
open Go.RowKit

theorem noted_bad {zs : List Int} {s x : Int} (h : memB zs s = false) : notedB zs s x = false ∧ notedL zs s x = [] ∧ sinceI zs s = 0 := by
  have h1 : notedB zs s x = false := by unfold notedB; rw [h]; rfl
  exact ⟨h1, by rw [notedL_false h1, seenL_false h], sinceI_false h⟩
theorem noted_no {zs : List Int} {s x : Int} (h : memB zs s = true) (h1 : isDrawB x = false ∨ x ∈ zs ∨ zs.length = 6) : notedB zs s x = false ∧ notedL zs s x = zs ∧ sinceI zs s = s := by
  have h2 : notedB zs s x = false := by
    unfold notedB
    rw [h, Bool.true_and]
    rcases h1 with h1 | h1 | h1
    · rw [h1]; rfl
    · rw [decide_eq_true h1]; simp
    · rw [decide_eq_true h1]; simp
  exact ⟨h2, by rw [notedL_false h2, seenL_true h], sinceI_true h⟩
theorem noted_yes {zs : List Int} {s x : Int} (h : memB zs s = true) (h1 : isDrawB x = true) (h2 : ¬ x ∈ zs) (h3 : ¬ zs.length = 6) : notedB zs s x = true ∧ notedL zs s x = zs ++ [x] ∧ sinceI zs s = s := by
  have h4 : notedB zs s x = true := by unfold notedB; rw [h, h1, decide_eq_false h2, decide_eq_false h3]; rfl
  exact ⟨h4, notedL_true h4, sinceI_true h⟩
theorem OwnN.heap {w w' : World} {base : Nat} {zs : List Int} {A : Option Addr} {n cap : Nat} (h : OwnN w base zs A n cap) (he : ∀ g, blkN A = some g → w'.heap[g]? = w.heap[g]?) : OwnN w' base zs A n cap := by
  refine ⟨⟨h.own.1, ?_⟩⟩
  rcases h.own.2 with h1 | ⟨g, c, cur, hv, hg, hh, r⟩
  · exact .inl h1
  · cases hv; exact .inr ⟨g, cap, cur, rfl, hg, (he g rfl).trans hh, r⟩
theorem OwnN.snoc {w : World} {base : Nat} {zs : List Int} {x : Int} {v : Value} (h : w.ownsRow base 2 1 v (zs.length + 1) (zs.map (Value.int .i64) ++ [.int .i64 x])) :
    ∃ g cb, v = .slice (some ⟨g, 0, none⟩) (zs.length + 1) cb ∧ OwnN w base (zs ++ [x]) (some ⟨g, 0, none⟩) (zs.length + 1) cb := by
  obtain ⟨g, cb, rfl, _, _⟩ := h.form (by omega)
  exact ⟨g, cb, rfl, ⟨by rw [List.map_append]; exact h⟩⟩

/-- No block of numbers is a block of another type. -/
theorem OwnN.ne_blk {w : World} {base : Nat} {zs : List Int} {g n cap k : Nat} {cs : Array Value} {t : TypeId} {f : Nat × Nat} (h : OwnN w base zs (some ⟨g, 0, none⟩) n cap) (hb : w.heap[k]? = some (.cells cs t f)) (ht : t ≠ 2) : g ≠ k := fun e => by
  subst e
  rcases h.own.2 with ⟨e, _⟩ | ⟨g', c, cur, hv, _, hh, _⟩
  · cases e
  · cases hv
    rw [hb] at hh
    injection hh with hh
    injection hh with _ h2 _
    exact ht h2

end Go.Proofs.Ytakhjdodljhfmaa.Tx

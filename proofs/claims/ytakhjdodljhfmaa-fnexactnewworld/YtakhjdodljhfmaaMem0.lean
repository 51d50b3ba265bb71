/-
  Plain facts on memories: which are right, what may be heard, what is noted; the map of places of a list of numbers. Nothing of the program is named here. No conditions.
-/
import Derived.WalkKit
import Derived.OpenShut
import Derived.Maps.OwnSet
import Derived.Maps.RangeWalk
import Derived.Test.YtakhjdodljhfmaaDraws0
import Derived.Test.YtakhjdodljhfmaaIn
namespace Go.Proofs.Ytakhjdodljhfmaa.Tx
open Go.RowKit

/-- The number fits an int64. -/
def W64 (z : Int) : Prop := (Lit.int .i64 z).wf = true
def AllI64 (zs : List Int) : Prop := ∀ z ∈ zs, W64 z
theorem i64_of {z : Int} (h0 : -9223372036854775808 ≤ z) (h1 : z ≤ 9223372036854775807) : W64 z := WalkArith.wf_i64 (by omega)
theorem W64.bounds {z : Int} (h : W64 z) : -9223372036854775808 ≤ z ∧ z ≤ 9223372036854775807 := by
  unfold W64 at h
  exact Go.bounds_i64 h
theorem allI64_nil : AllI64 [] := fun _ h => by cases h
theorem AllI64.snoc {zs : List Int} {x : Int} (h : AllI64 zs) (hx : W64 x) : AllI64 (zs ++ [x]) := fun z hz => by
  rcases List.mem_append.1 hz with h1 | h1
  · exact h z h1
  · rw [List.mem_singleton.1 h1]; exact hx
theorem AllI64.at {zs : List Int} (h : AllI64 zs) (k : Nat) : W64 (zs[k]?.getD 0) := by
  by_cases hk : k < zs.length
  · rw [List.getElem?_eq_getElem hk]; exact h _ (List.getElem_mem _)
  · rw [List.getElem?_eq_none (by omega)]; exact i64_of (by simp) (by simp)

/-- Is it a right Memory? -/
def memB (zs : List Int) (s : Int) : Bool := zs.all isDrawB && (decide (zs.length ≤ 6) && (unlikeB zs && inB s 0 100000))
theorem memB_true {zs : List Int} {s : Int} (h : memB zs s = true) : (∀ z ∈ zs, isDrawB z = true) ∧ zs.length ≤ 6 ∧ zs.Nodup ∧ 0 ≤ s ∧ s ≤ 100000 := by
  unfold memB unlikeB at h
  rw [Bool.and_eq_true, Bool.and_eq_true, Bool.and_eq_true, decide_eq_true_iff, decide_eq_true_iff, List.all_eq_true] at h
  exact ⟨h.1, h.2.1, h.2.2.1, inB_true h.2.2.2⟩
theorem memB_mk {zs : List Int} {s : Int} (h1 : ∀ z ∈ zs, isDrawB z = true) (h2 : zs.length ≤ 6) (h3 : zs.Nodup) (h4 : 0 ≤ s ∧ s ≤ 100000) : memB zs s = true := by
  unfold memB unlikeB
  rw [Bool.and_eq_true, Bool.and_eq_true, Bool.and_eq_true, decide_eq_true_iff, decide_eq_true_iff, List.all_eq_true]
  exact ⟨h1, h2, h3, inB_mk h4⟩
theorem memB_nil (s : Int) : memB [] s = inB s 0 100000 := by simp [memB, unlikeB]
def askB (zs : List Int) (s h said now : Int) : Bool := memB zs s && (isDrawB h && (inB said 0 100000 && inB now 0 100000))
/-- May early words of that greeting be heard? -/
def hearI (zs : List Int) (s h said now : Int) : Int :=
  if askB zs s h said now = false then 5 else if now ≤ s + 61 then 1 else if now + 30 < said ∨ said < now - 30 then 2 else if h ∈ zs then 3 else if zs.length = 6 then 4 else 0
def notedB (zs : List Int) (s h : Int) : Bool := memB zs s && (isDrawB h && (!decide (h ∈ zs) && !decide (zs.length = 6)))
def seenL (zs : List Int) (s : Int) : List Int := if memB zs s = true then zs else []
def sinceI (zs : List Int) (s : Int) : Int := if memB zs s = true then s else 0
def notedL (zs : List Int) (s h : Int) : List Int := if notedB zs s h = true then zs ++ [h] else seenL zs s
theorem seenL_true {zs : List Int} {s : Int} (h : memB zs s = true) : seenL zs s = zs := if_pos h
theorem seenL_false {zs : List Int} {s : Int} (h : memB zs s = false) : seenL zs s = [] := if_neg (by rw [h]; decide)
theorem sinceI_true {zs : List Int} {s : Int} (h : memB zs s = true) : sinceI zs s = s := if_pos h
theorem sinceI_false {zs : List Int} {s : Int} (h : memB zs s = false) : sinceI zs s = 0 := if_neg (by rw [h]; decide)
theorem seenL_nodup (zs : List Int) (s : Int) : (seenL zs s).Nodup ∧ (seenL zs s).length ≤ 6 := by
  cases h : memB zs s
  · rw [seenL_false h]; simp
  · rw [seenL_true h]; exact ⟨(memB_true h).2.2.1, (memB_true h).2.1⟩
theorem notedB_true {zs : List Int} {s h : Int} (hb : notedB zs s h = true) : memB zs s = true ∧ isDrawB h = true ∧ h ∉ zs ∧ zs.length ≠ 6 := by
  unfold notedB at hb
  simpa using hb
theorem notedL_true {zs : List Int} {s h : Int} (hb : notedB zs s h = true) : notedL zs s h = zs ++ [h] := if_pos hb
theorem notedL_false {zs : List Int} {s h : Int} (hb : notedB zs s h = false) : notedL zs s h = seenL zs s := if_neg (by rw [hb]; decide)
theorem notedL_right {zs : List Int} {s h : Int} (hb : notedB zs s h = true) : memB (zs ++ [h]) s = true := by
  obtain ⟨h1, h2, h3, h4⟩ := notedB_true hb
  obtain ⟨a, b, c, d⟩ := memB_true h1
  refine memB_mk (fun z hz => ?_) (by simp; omega) ?_ d
  · rcases List.mem_append.1 hz with h5 | h5
    · exact a z h5
    · rw [List.mem_singleton.1 h5]; exact h2
  · rw [List.nodup_append]
    exact ⟨c, by simp, fun x hx y hy e => h3 (by rw [List.mem_singleton.1 hy] at e; exact e ▸ hx)⟩
theorem notedL_nodup (zs : List Int) (s h : Int) : (notedL zs s h).Nodup ∧ (notedL zs s h).length ≤ 6 := by
  cases hb : notedB zs s h
  · rw [notedL_false hb]; exact seenL_nodup zs s
  · rw [notedL_true hb]
    have := memB_true (notedL_right hb)
    exact ⟨this.2.2.1, this.2.1⟩
theorem askB_true {zs : List Int} {s h said now : Int} (hb : askB zs s h said now = true) : memB zs s = true ∧ isDrawB h = true ∧ (0 ≤ said ∧ said ≤ 100000) ∧ 0 ≤ now ∧ now ≤ 100000 := by
  unfold askB at hb
  rw [Bool.and_eq_true, Bool.and_eq_true, Bool.and_eq_true] at hb
  exact ⟨hb.1, hb.2.1, inB_true hb.2.2.1, inB_true hb.2.2.2⟩

/-! ### the map of places -/
/-- Each of the first k numbers with its place. -/
def placesD {H : Type} (zs : List Int) : Nat → DataW H
  | 0 => .map []
  | k + 1 => (placesD zs k).put (.int .i64 (zs[k]?.getD 0)) (.lit (.int .i64 k))
theorem places_isMap {H : Type} (zs : List Int) : ∀ k, Maps.IsMap (placesD (H := H) zs k)
  | 0 => Maps.isMap_empty
  | k + 1 => (places_isMap zs k).put _ _
theorem key_i64 (z : Int) : WideAt.IsKeyLit (.int .i64 z) := by first | trivial | simp [WideAt.IsKeyLit]
theorem places_tidy {H : Type} (zs : List Int) : ∀ k, Maps.Tidy (placesD (H := H) zs k)
  | 0 => Maps.tidy_empty
  | k + 1 => (places_tidy zs k).put (key_i64 _) _
theorem mem_take_succ {zs : List Int} {k : Nat} (hk : k < zs.length) (x : Int) : x ∈ zs.take (k + 1) ↔ x ∈ zs.take k ∨ x = zs[k]?.getD 0 := by
  rw [List.take_succ_eq_append_getElem hk, List.mem_append, List.mem_singleton, List.getElem?_eq_getElem hk]; rfl
theorem lit_ne {x y : Int} (h : x ≠ y) : Lit.int .i64 x ≠ Lit.int .i64 y := fun e => h (by injection e)
theorem has_places {H : Type} (zs : List Int) (x : Int) : ∀ k, k ≤ zs.length → Maps.has (placesD (H := H) zs k) (.int .i64 x) = decide (x ∈ zs.take k)
  | 0, _ => by simp [placesD, Maps.has]
  | k + 1, hk => by
    have ih := has_places (H := H) zs x k (by omega)
    by_cases e : x = zs[k]?.getD 0
    · rw [placesD, ← e, Maps.has_put_same (places_isMap zs k) (key_i64 _), decide_eq_true ((mem_take_succ (by omega) x).2 (.inr e))]
    · rw [placesD, Maps.has_put_other (lit_ne e), ih]
      congr 1
      rw [mem_take_succ (by omega)]
      simp [e]
theorem nodup_take {zs : List Int} (h : zs.Nodup) (k : Nat) : (zs.take k).Nodup := h.sublist (List.take_sublist _ _)
theorem not_in_take {zs : List Int} (h : zs.Nodup) {k : Nat} (hk : k < zs.length) : zs[k]?.getD 0 ∉ zs.take k := fun hm => by
  have := nodup_take h (k + 1)
  rw [List.take_succ_eq_append_getElem hk, List.nodup_append] at this
  rw [List.getElem?_eq_getElem hk] at hm
  exact this.2.2 _ hm _ (List.mem_singleton.2 rfl) rfl
theorem size_places {H : Type} {zs : List Int} (h : zs.Nodup) : ∀ k, k ≤ zs.length → Maps.size (placesD (H := H) zs k) = k
  | 0, _ => rfl
  | k + 1, hk => by
    rw [placesD, Maps.size_put (places_tidy zs k), has_places zs _ k (by omega), decide_eq_false (not_in_take h (by omega)), size_places h k (by omega)]
    simp
theorem nodup_inj {zs : List Int} (h : zs.Nodup) {i j : Nat} (hi : i < zs.length) (hj : j < zs.length) (e : zs[i]?.getD 0 = zs[j]?.getD 0) : i = j := by
  rw [List.getElem?_eq_getElem hi, List.getElem?_eq_getElem hj] at e
  have e1 : zs[i] = zs[j] := e
  rcases Nat.lt_trichotomy i j with hl | hl | hl
  · exact absurd e1 ((List.pairwise_iff_getElem.1 h) i j hi hj hl)
  · exact hl
  · exact absurd e1.symm ((List.pairwise_iff_getElem.1 h) j i hj hi hl)
theorem at_places {H : Type} {zs : List Int} (h : zs.Nodup) (z : DataW H) {i : Nat} : ∀ k, k ≤ zs.length → i < k → (placesD (H := H) zs k).atKey (.int .i64 (zs[i]?.getD 0)) z = .lit (.int .i64 i)
  | 0, _, hi => absurd hi (by omega)
  | k + 1, hk, hi => by
    by_cases e : i = k
    · subst e; rw [placesD, Maps.atKey_put_same (places_isMap zs i) (key_i64 _)]
    · rw [placesD, Maps.atKey_put_other (lit_ne (fun e' => e (nodup_inj h (by omega) (by omega) e'))), at_places h z k (by omega) (by omega)]
theorem places_app {H : Type} (zs : List Int) (x : Int) : ∀ k, k ≤ zs.length → placesD (H := H) (zs ++ [x]) k = placesD zs k
  | 0, _ => rfl
  | k + 1, hk => by rw [placesD, placesD, places_app zs x k (by omega), List.getElem?_append_left (by omega)]
/-- One more at the end. -/
theorem places_snoc {H : Type} (zs : List Int) (x : Int) : (placesD (H := H) zs zs.length).put (.int .i64 x) (.lit (.int .i64 zs.length)) = placesD (zs ++ [x]) (zs ++ [x]).length := by
  rw [List.length_append, List.length_singleton, placesD, places_app zs x _ (Nat.le_refl _)]
  simp
/-- What is at a key is its place. -/
theorem place_of {H : Type} {zs : List Int} (h : zs.Nodup) {x c : Int} (hat : ∀ zd, (placesD (H := H) zs zs.length).atKey (.int .i64 x) zd = .lit (.int .i64 c)) : ∃ i, i < zs.length ∧ c = i ∧ x = zs[i]?.getD 0 := by
  have h1 := Maps.has_true_of_atKey hat
  rw [has_places zs x _ (Nat.le_refl _), decide_eq_true_iff, List.take_of_length_le (Nat.le_refl _)] at h1
  obtain ⟨i, hi, e⟩ := List.getElem_of_mem h1
  have e' : x = zs[i]?.getD 0 := by rw [List.getElem?_eq_getElem hi]; exact e.symm
  refine ⟨i, hi, ?_, e'⟩
  have h2 := hat .nil
  rw [e', at_places h .nil _ (Nat.le_refl _) hi] at h2
  injection h2 with h2
  injection h2 with _ h2
  exact h2.symm

end Go.Proofs.Ytakhjdodljhfmaa.Tx

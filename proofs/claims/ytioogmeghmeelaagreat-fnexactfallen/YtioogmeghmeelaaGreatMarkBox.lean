/-
  What markText, markStringS and heldStringS of the laws do: each element of a list is marked by a text of its own number, and they are found so. Conditions: numbers from 0 to 2^62.
  What markBoxS and heldBoxS of the laws do: each cell of each element of a list is marked by its own number, and they are found so. Conditions: numbers from 0 to 2^62.
-/
import Derived.Laws.BytesArg
import Derived.Test.YtioogmeghmeelaaGreatCur
import Derived.Test.YtioogmeghmeelaaGreatLists
import Derived.Test.YtioogmeghmeelaaGreatRegionL
import Derived.Test.YtioogmeghmeelaaGreatBlk
import Derived.Test.YtioogmeghmeelaaGreatDigs
import Derived.Test.YtioogmeghmeelaaGreatFlat
namespace Go.Proofs.YtioogmeghmeelaaGreat.Tx
open Go.RowKit

/-- The mark of k. -/
def markT (k : Nat) : ByteArray := if k = 0 then ⟨#[109, 48]⟩ else ⟨#[109]⟩ ++ digs k

set_option maxHeartbeats 2000000 in
theorem markText_any (k : Nat) (hk : k ≤ 4611686018427387904) (w : World) : Calls Tryz.prog 71 #[.int .i64 (k : Int)] w fun e w' => e = .returned (.string (markT k)) ∧ Below w.heap.size w w' := by
  by_cases h0 : k = 0
  · subst h0
    go_enter Tryz.func71, Tryz.ntmps71
    go_wp2
    go_ret
    exact ⟨rfl, Below.refl _ _⟩
  · have hk0 : ¬ (k : Int) ≤ 0 := by omega
    have HM : Hid (markT k = ⟨#[109]⟩ ++ digs k) := if_neg h0
    have hcv := conv_one
    go_enter Tryz.func71, Tryz.ntmps71
    go_wp2_with fail
    go_loopw [0, 3] (fun i o wr => ∃ (j : Nat) (s : ByteArray), j ≤ 4611686018427387904 ∧ i = .int .i64 j ∧ o = .string s ∧ Hid (digs j ++ s = digs k) ∧ Hid (Below w.heap.size w wr)) (fun i _ _ => (intOf i).toNat)
    case atStart => exact ⟨k, ⟨#[]⟩, hk, rfl, rfl, ByteArray.append_empty, Below.refl _ _⟩
    case round =>
      obtain ⟨j, s, hj, rfl, rfl, hd, hB⟩ := hrel
      have hs : s.size ≤ 19 := by
        have h1 := digs_size 19 k (by omega)
        rw [← hd.out, ByteArray.size_append] at h1
        omega
      by_cases hjp : 0 < j
      · have hj1 : (0 : Int) < (j : Int) := by omega
        have hno : ¬ 9223372036854775807 < (chr1 (48 + (j : Int) % 10)).size + s.size := by rw [chr1_size]; omega
        have HD : Hid (digs (j / 10) ++ (chr1 (48 + (j : Int) % 10) ++ s) = digs k) := by
          show _ = _
          rw [← hd.out, digs_pos hjp, ByteArray.append_assoc]
          rfl
        go_wp2
        go_roundw
        case rel => exact ⟨j / 10, _, by omega, by simp, rfl, HD.out, hB.out.alloc hB.out.size _⟩
        case measure => simp [intOf]; omega
      · obtain rfl : j = 0 := by omega
        have HD : Hid (s = digs k) := by show _ = _; rw [← hd.out, digs_zero]; exact ByteArray.empty_append.symm
        have hno : ¬ 9223372036854775807 < (⟨#[109]⟩ : ByteArray).size + s.size := by show ¬ 9223372036854775807 < 1 + s.size; omega
        go_wp2
        go_ret
        exact ⟨by rw [HM.out, ← HD.out]; rfl, hB.out⟩

theorem only_setRow {a w : World} {g : Nat} (h : a.grownBy w (some g)) (j : Nat) (u : Value) : a.grownBy (w.setCell ⟨g, j, none⟩ u) (some g) :=
  ⟨h.os, h.tape, h.output, by simpa [World.setCell] using h.size, fun i hi hne => (Below.heap_setCell w ⟨g, j, none⟩ u i (fun e => hne (by rw [e]))).trans (h.block i hi hne)⟩
/-- The cells of block g from a to b are there and may be written. -/
def There (w : World) (g a b : Nat) : Prop := ∀ t, a ≤ t → t < b → (∃ v, w.cell? ⟨g, t, none⟩ = some v) ∧ w.frozen? ⟨g, t, none⟩ = false
/-- The first m cells of block g are the marks of k, k + 1, .. -/
def Marked (w : World) (g k m : Nat) : Prop := ∀ t, t < m → w.cell? ⟨g, t, none⟩ = some (.string (markT (k + t)))
theorem There.lt {w : World} {g a b : Nat} (h : There w g a b) (hab : a < b) : g < w.heap.size := by
  obtain ⟨⟨v, hv⟩, _⟩ := h a (Nat.le_refl _) hab
  exact World.block_lt_of_cell? w ⟨g, a, none⟩ hv



end Go.Proofs.YtioogmeghmeelaaGreat.Tx
namespace Go.Proofs.YtioogmeghmeelaaGreat.Tx
open Go.RowKit

/-- The mark of a cell of that kind. -/
def markV : FK → Nat → Value
  | .int, k => .int .i64 (k : Int)
  | .str, k => .string (markT k)
  | .bool, k => .bool ((k : Int) % 3 == 0)
/-- The marks of a row of such cells, from k on. -/
def markF (ks : List FK) (k t : Nat) : Value := markV (ks[t % ks.length]?.getD .int) (k + t)
/-- The first a cells of block g are those of f. -/
def Filled (w : World) (g : Nat) (f : Nat → Value) (a : Nat) : Prop := ∀ t, t < a → w.cell? ⟨g, t, none⟩ = some (f t)
theorem setAll_frozen {g : Nat} : ∀ (vs : List Value) (k : Nat) {w : World} (p : Addr), (setAll w g k vs).frozen? p = w.frozen? p
  | [], _, _, _ => rfl
  | v :: r, k, w, p => by rw [setAll, setAll_frozen r (k + 1) p, World.frozen?_setCell]
theorem Filled.set {w : World} {g : Nat} {f : Nat → Value} {a b : Nat} {vs : List Value} (h : Filled w g f a) (hT : There w g a b) (hl : a + vs.length ≤ b) (hv : ∀ i v, vs[i]? = some v → v = f (a + i)) :
    Filled (setAll w g a vs) g f (a + vs.length) ∧ There (setAll w g a vs) g (a + vs.length) b := by
  have hs : ∀ i, i < vs.length → (w.cell? ⟨g, a + i, none⟩).isSome = true := fun i hi => by
    obtain ⟨⟨v, e⟩, _⟩ := hT (a + i) (by omega) (by omega)
    rw [e]; rfl
  refine ⟨fun t ht => ?_, fun t h0 h1 => ?_⟩
  · by_cases hta : t < a
    · rw [setAll_far vs a (.inr hta)]; exact h t hta
    · obtain ⟨i, rfl⟩ : ∃ i, t = a + i := ⟨t - a, by omega⟩
      have hi : i < vs.length := by omega
      rw [setAll_cell vs a hs i vs[i] (List.getElem?_eq_getElem hi), hv i vs[i] (List.getElem?_eq_getElem hi)]
  · obtain ⟨⟨v, e⟩, e'⟩ := hT t (by omega) h1
    refine ⟨⟨v, ?_⟩, by rw [setAll_frozen]; exact e'⟩
    rw [← e]
    have : ∀ (vs : List Value) (k : Nat) (w : World), k + vs.length ≤ t → (setAll w g k vs).cell? ⟨g, t, none⟩ = w.cell? ⟨g, t, none⟩ := by
      intro vs
      induction vs with
      | nil => intro k w _; rfl
      | cons x r ih =>
        intro k w hk
        rw [List.length_cons] at hk
        rw [setAll, ih (k + 1) _ (by omega)]
        exact World.cell?_setCell_other _ _ _ _ (fun e' => by have := congrArg Addr.off e'; simp at this; omega)
    exact this vs a w h0
theorem Filled.below {w w' : World} {g : Nat} {f : Nat → Value} {a : Nat} (h : Filled w g f a) (hg : g < w.heap.size) (b : Below w.heap.size w w') : Filled w' g f a := fun t ht => (b.cell (p := ⟨g, t, none⟩) hg).trans (h t ht)
theorem There.below {w w' : World} {g a c : Nat} (h : There w g a c) (hg : g < w.heap.size) (b : Below w.heap.size w w') : There w' g a c := fun t h0 h1 => by
  obtain ⟨⟨v, e⟩, e'⟩ := h t h0 h1
  exact ⟨⟨v, (b.cell (p := ⟨g, t, none⟩) hg).trans e⟩, (b.frozen (p := ⟨g, t, none⟩) hg).trans e'⟩
theorem only_setRows {a : World} {g : Nat} : ∀ (vs : List Value) (k : Nat) {w : World}, a.grownBy w (some g) → a.grownBy (setAll w g k vs) (some g)
  | [], _, _, h => h
  | v :: r, k, _, h => only_setRows r (k + 1) (only_setRow h k v)

/-- A box's kinds. -/
def boxKs : List FK := [.int, .int, .int, .int, .int, .str, .bool]
theorem markBox_at (k j r : Nat) (hr : r < 7) : markF boxKs k (j * 7 + r) = markV (boxKs[r]?.getD .int) (k + (j * 7 + r)) := by
  have e : (j * 7 + r) % boxKs.length = r := by show (j * 7 + r) % 7 = r; omega
  rw [markF, e]



end Go.Proofs.YtioogmeghmeelaaGreat.Tx

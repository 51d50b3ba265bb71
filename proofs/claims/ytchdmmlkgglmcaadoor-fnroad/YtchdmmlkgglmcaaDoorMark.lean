/-
  What markText, markStringS and heldStringS of the laws do: each element of a list is marked by a text of its own number, and they are found so. Conditions: numbers from 0 to 2^62.
-/
import Derived.Laws.BytesArg
import Derived.Test.YtchdmmlkgglmcaaDoorCur
import Derived.Test.YtchdmmlkgglmcaaDoorLists
import Derived.Test.YtchdmmlkgglmcaaDoorRegionL
import Derived.Test.YtchdmmlkgglmcaaDoorBlk
import Derived.Test.YtchdmmlkgglmcaaDoorDigs
namespace Go.Proofs.YtchdmmlkgglmcaaDoor.Tx
open Go.RowKit

/-- The mark of k. -/
def markT (k : Nat) : ByteArray := if k = 0 then ⟨#[109, 48]⟩ else ⟨#[109]⟩ ++ digs k

set_option maxHeartbeats 2000000 in
theorem markText_any (k : Nat) (hk : k ≤ 4611686018427387904) (w : World) : Calls Tryd.prog 77 #[.int .i64 (k : Int)] w fun e w' => e = .returned (.string (markT k)) ∧ Below w.heap.size w w' := by
  by_cases h0 : k = 0
  · subst h0
    go_enter Tryd.func77, Tryd.ntmps77
    go_wp2
    go_ret
    exact ⟨rfl, Below.refl _ _⟩
  · have hk0 : ¬ (k : Int) ≤ 0 := by omega
    have HM : Hid (markT k = ⟨#[109]⟩ ++ digs k) := if_neg h0
    have hcv := conv_one
    go_enter Tryd.func77, Tryd.ntmps77
    go_wp2_with fail
    go_loopw [0, 3] (fun i o wr => ∃ (j : Nat) (s : ByteArray), j ≤ 4611686018427387904 ∧ i = .int .i64 j ∧ o = .string s ∧ Hid (digs j ++ s = digs k) ∧ Hid (Below w.heap.size w wr)) (fun i _ _ => (intOf i).toNat)
    case atStart => exact ⟨k, ⟨#[]⟩, hk, rfl, rfl, ByteArray.append_empty, Below.refl _ _⟩
    case round =>
      obtain ⟨j, s, hj, rfl, rfl, hd, hB⟩ := hrel
      have hs : s.size ≤ 19 := by
        have h1 := digs_size 19 k (by omega)
        rw [← hd.out, ByteArray.size_append] at h1
        omega
      by_cases hjp : 0 < j
      · have hj1 : (0 : Int) < (j : Int) := by omega
        have hno : ¬ 9223372036854775807 < (chr1 (48 + (j : Int) % 10)).size + s.size := by rw [chr1_size]; omega
        have HD : Hid (digs (j / 10) ++ (chr1 (48 + (j : Int) % 10) ++ s) = digs k) := by
          show _ = _
          rw [← hd.out, digs_pos hjp, ByteArray.append_assoc]
          rfl
        go_wp2
        go_roundw
        case rel => exact ⟨j / 10, _, by omega, by simp, rfl, HD.out, hB.out.alloc hB.out.size _⟩
        case measure => simp [intOf]; omega
      · obtain rfl : j = 0 := by omega
        have HD : Hid (s = digs k) := by show _ = _; rw [← hd.out, digs_zero]; exact ByteArray.empty_append.symm
        have hno : ¬ 9223372036854775807 < (⟨#[109]⟩ : ByteArray).size + s.size := by show ¬ 9223372036854775807 < 1 + s.size; omega
        go_wp2
        go_ret
        exact ⟨by rw [HM.out, ← HD.out]; rfl, hB.out⟩

theorem only_setRow {a w : World} {g : Nat} (h : a.grownBy w (some g)) (j : Nat) (u : Value) : a.grownBy (w.setCell ⟨g, j, none⟩ u) (some g) :=
  ⟨h.os, h.tape, h.output, by simpa [World.setCell] using h.size, fun i hi hne => (Below.heap_setCell w ⟨g, j, none⟩ u i (fun e => hne (by rw [e]))).trans (h.block i hi hne)⟩
/-- The cells of block g from a to b are there and may be written. -/
def There (w : World) (g a b : Nat) : Prop := ∀ t, a ≤ t → t < b → (∃ v, w.cell? ⟨g, t, none⟩ = some v) ∧ w.frozen? ⟨g, t, none⟩ = false
/-- The first m cells of block g are the marks of k, k + 1, .. -/
def Marked (w : World) (g k m : Nat) : Prop := ∀ t, t < m → w.cell? ⟨g, t, none⟩ = some (.string (markT (k + t)))
theorem There.lt {w : World} {g a b : Nat} (h : There w g a b) (hab : a < b) : g < w.heap.size := by
  obtain ⟨⟨v, hv⟩, _⟩ := h a (Nat.le_refl _) hab
  exact World.block_lt_of_cell? w ⟨g, a, none⟩ hv



end Go.Proofs.YtchdmmlkgglmcaaDoor.Tx

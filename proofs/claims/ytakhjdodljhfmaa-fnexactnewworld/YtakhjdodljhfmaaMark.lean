/-
  What markText, markStringS and heldStringS of the laws do: each element of a list is marked by a text of its own number, and they are found so. Conditions: numbers from 0 to 2^62.
-/
import Derived.Laws.BytesArg
import Derived.Test.YtakhjdodljhfmaaCur
import Derived.Test.YtakhjdodljhfmaaLists
import Derived.Test.YtakhjdodljhfmaaRegionL
import Derived.Test.YtakhjdodljhfmaaBlk
import Derived.Test.YtakhjdodljhfmaaDigs
namespace Go.Proofs.Ytakhjdodljhfmaa.Tx
open Go.RowKit

/-- The mark of k. -/
def markT (k : Nat) : ByteArray := if k = 0 then ⟨#[109, 48]⟩ else ⟨#[109]⟩ ++ digs k

set_option maxHeartbeats 2000000 in
theorem markText_any (k : Nat) (hk : k ≤ 4611686018427387904) (w : World) : Calls Try.prog 35 #[.int .i64 (k : Int)] w fun e w' => e = .returned (.string (markT k)) ∧ Below w.heap.size w w' := by
  by_cases h0 : k = 0
  · subst h0
    go_enter Try.func35, Try.ntmps35
    go_wp2
    go_ret
    exact ⟨rfl, Below.refl _ _⟩
  · have hk0 : ¬ (k : Int) ≤ 0 := by omega
    have HM : Hid (markT k = ⟨#[109]⟩ ++ digs k) := if_neg h0
    have hcv := conv_one
    go_enter Try.func35, Try.ntmps35
    go_wp2_with fail
    go_loopw [0, 3] (fun i o wr => ∃ (j : Nat) (s : ByteArray), j ≤ 4611686018427387904 ∧ i = .int .i64 j ∧ o = .string s ∧ Hid (digs j ++ s = digs k) ∧ Hid (Below w.heap.size w wr)) (fun i _ _ => (intOf i).toNat)
    case atStart => exact ⟨k, ⟨#[]⟩, hk, rfl, rfl, ByteArray.append_empty, Below.refl _ _⟩
    case round =>
      obtain ⟨j, s, hj, rfl, rfl, hd, hB⟩ := hrel
      have hs : s.size ≤ 19 := by
        have h1 := digs_size 19 k (by omega)
        rw [← hd.out, ByteArray.size_append] at h1
        omega
      by_cases hjp : 0 < j
      · have hj1 : (0 : Int) < (j : Int) := by omega
        have hno : ¬ 9223372036854775807 < (chr1 (48 + (j : Int) % 10)).size + s.size := by rw [chr1_size]; omega
        have HD : Hid (digs (j / 10) ++ (chr1 (48 + (j : Int) % 10) ++ s) = digs k) := by
          show _ = _
          rw [← hd.out, digs_pos hjp, ByteArray.append_assoc]
          rfl
        go_wp2
        go_roundw
        case rel => exact ⟨j / 10, _, by omega, by simp, rfl, HD.out, hB.out.alloc hB.out.size _⟩
        case measure => simp [intOf]; omega
      · obtain rfl : j = 0 := by omega
        have HD : Hid (s = digs k) := by show _ = _; rw [← hd.out, digs_zero]; exact ByteArray.empty_append.symm
        have hno : ¬ 9223372036854775807 < (⟨#[109]⟩ : ByteArray).size + s.size := by show ¬ 9223372036854775807 < 1 + s.size; omega
        go_wp2
        go_ret
        exact ⟨by rw [HM.out, ← HD.out]; rfl, hB.out⟩

theorem only_setRow {a w : World} {g : Nat} (h : a.grownBy w (some g)) (j : Nat) (u : Value) : a.grownBy (w.setCell ⟨g, j, none⟩ u) (some g) :=
  ⟨h.os, h.tape, h.output, by simpa [World.setCell] using h.size, fun i hi hne => (Below.heap_setCell w ⟨g, j, none⟩ u i (fun e => hne (by rw [e]))).trans (h.block i hi hne)⟩
/-- The cells of block g from a to b are there and may be written. -/
def There (w : World) (g a b : Nat) : Prop := ∀ t, a ≤ t → t < b → (∃ v, w.cell? ⟨g, t, none⟩ = some v) ∧ w.frozen? ⟨g, t, none⟩ = false
/-- The first m cells of block g are the marks of k, k + 1, .. -/
def Marked (w : World) (g k m : Nat) : Prop := ∀ t, t < m → w.cell? ⟨g, t, none⟩ = some (.string (markT (k + t)))
theorem There.lt {w : World} {g a b : Nat} (h : There w g a b) (hab : a < b) : g < w.heap.size := by
  obtain ⟨⟨v, hv⟩, _⟩ := h a (Nat.le_refl _) hab
  exact World.block_lt_of_cell? w ⟨g, a, none⟩ hv

set_option maxHeartbeats 2000000 in
theorem markStringS_any (g n cap k : Nat) (hk : k + n ≤ 4611686018427387904) (w : World) (hT : There w g 0 n) :
    Calls Try.prog 36 #[.slice (some ⟨g, 0, none⟩) n cap, .int .i64 (k : Int)] w fun e w' => e = .returned (.int .i64 ((k + n : Nat) : Int)) ∧ Marked w' g k n ∧ w.grownBy w' (some g) := by
  have HT := Lib.hid hT
  clear hT
  go_enter Try.func36, Try.ntmps36
  go_wp2_with fail
  go_loopw [1, 5] (fun kv i wr => ∃ j : Nat, j ≤ n ∧ i = .int .i64 j ∧ kv = .int .i64 ((k + j : Nat) : Int) ∧ Hid (Marked wr g k j) ∧ Hid (There wr g j n) ∧ Hid (w.grownBy wr (some g))) (fun _ i _ => n - (intOf i).toNat)
  case atStart => exact ⟨0, Nat.zero_le _, rfl, rfl, fun t ht => absurd ht (by omega), HT.out, ⟨rfl, rfl, rfl, Nat.le_refl _, fun _ _ _ => rfl⟩⟩
  case round =>
    obtain ⟨j, hj, rfl, rfl, hM, hR, hG⟩ := hrel
    by_cases hlt : j < n
    · have hlt' : (j : Int) < (n : Int) := by omega
      have hj0 : (0 : Int) ≤ (j : Int) := by omega
      have hg := hR.out.lt hlt
      go_wp2_with fail
      refine (markText_any (k + j) (by omega) _).mono ?_
      rintro e w1 ⟨rfl, b1⟩
      obtain ⟨⟨v, hv⟩, hf⟩ := hR.out j (Nat.le_refl _) hlt
      have hv1 : w1.cell? ⟨g, j, none⟩ = some v := (b1.cell (p := ⟨g, j, none⟩) hg).trans hv
      have hf1 : w1.frozen? ⟨g, j, none⟩ = false := (b1.frozen (p := ⟨g, j, none⟩) hg).trans hf
      obtain ⟨m, hm⟩ : ∃ m, markT (k + j) = m := ⟨_, rfl⟩
      have HM := Lib.hid hm
      have HB1 := Lib.hid b1
      rw [hm]
      clear hm b1 hv hf
      have HN : Hid (Marked (w1.setCell ⟨g, j, none⟩ (.string m)) g k (j + 1)) := fun t ht => by
        by_cases e : t = j
        · subst e; rw [HM.out]; exact World.cell?_setCell_same' _ _ _ (by rw [hv1]; rfl)
        · rw [World.cell?_setCell_other _ _ _ _ (fun e' => e (by have := congrArg Addr.off e'; simp at this; omega)), HB1.out.cell (p := ⟨g, t, none⟩) hg]
          exact hM.out t (by omega)
      have HR2 : Hid (There (w1.setCell ⟨g, j, none⟩ (.string m)) g (j + 1) n) := fun t ht0 ht1 => by
        obtain ⟨⟨v', hv'⟩, hf'⟩ := hR.out t (by omega) ht1
        refine ⟨⟨v', ?_⟩, ?_⟩
        · rw [World.cell?_setCell_other _ _ _ _ (fun e' => by have := congrArg Addr.off e'; simp at this; omega), HB1.out.cell (p := ⟨g, t, none⟩) hg]
          exact hv'
        · rw [World.frozen?_setCell, HB1.out.frozen (p := ⟨g, t, none⟩) hg]
          exact hf'
      have HG2 : Hid (w.grownBy (w1.setCell ⟨g, j, none⟩ (.string m)) (some g)) := only_setRow (only_below hG.out HB1.out) j _
      go_wp2
      go_roundw
      case rel => exact ⟨j + 1, by omega, by go_num, by go_num, HN.out, HR2.out, HG2.out⟩
      case measure => simp [intOf]; omega
    · obtain rfl : j = n := by omega
      have hlt' : ¬ (j : Int) < (j : Int) := by omega
      go_wp2
      go_ret
      exact ⟨rfl, hM.out, hG.out⟩

set_option maxHeartbeats 2000000 in
theorem heldStringS_any (g n cap k : Nat) (hk : k + n ≤ 4611686018427387904) (w : World) (hM : Marked w g k n) :
    Calls Try.prog 39 #[.slice (some ⟨g, 0, none⟩) n cap, .int .i64 (k : Int)] w fun e w' => e = .returned (.int .i64 ((k + n : Nat) : Int)) ∧ Below w.heap.size w w' := by
  have HM := Lib.hid hM
  clear hM
  go_enter Try.func39, Try.ntmps39
  go_wp2_with fail
  go_loopw [1, 5] (fun kv i wr => ∃ j : Nat, j ≤ n ∧ i = .int .i64 j ∧ kv = .int .i64 ((k + j : Nat) : Int) ∧ Hid (Below w.heap.size w wr)) (fun _ i _ => n - (intOf i).toNat)
  case atStart => exact ⟨0, Nat.zero_le _, rfl, rfl, Below.refl _ _⟩
  case round =>
    obtain ⟨j, hj, rfl, rfl, hB⟩ := hrel
    by_cases hlt : j < n
    · have hlt' : (j : Int) < (n : Int) := by omega
      have hj0 : (0 : Int) ≤ (j : Int) := by omega
      have hg := World.block_lt_of_cell? w ⟨g, j, none⟩ (HM.out j hlt)
      obtain ⟨m, hm⟩ : ∃ m, markT (k + j) = m := ⟨_, rfl⟩
      have hc : ∀ q : Later w, q.w.cell? ⟨g, j, none⟩ = some (.string m) := fun q => (q.bel.cell (p := ⟨g, j, none⟩) hg).trans (by rw [HM.out j hlt, hm])
      have cM : ∀ w' : World, Calls Try.prog 35 #[.int .i64 ((k + j : Nat) : Int)] w' fun e w'' => e = .returned (.string m) ∧ Below w'.heap.size w' w'' := fun w' => by
        have h1 := markText_any (k + j) (by omega) w'
        rw [hm] at h1
        exact h1
      clear hm hg
      go_wp2
      refine wp_region_later (W := w) hB.out (by kernel_rfl) (by kernel_rfl) ?_
      repeat (go_big_quiet_step ((go_at_call 35; exact calls_later (cM _))))
      refine wpQuiet_nil ?_
      rintro _ ⟨⟨w', hw'⟩, rfl⟩
      have Hw' := Lib.hid hw'
      clear hw' hc cM
      go_wp2
      go_roundw
      case rel => exact ⟨j + 1, by omega, by go_num, by go_num, Hw'.out⟩
      case measure => simp [intOf]; omega
    · obtain rfl : j = n := by omega
      have hlt' : ¬ (j : Int) < (j : Int) := by omega
      go_wp2
      go_ret
      exact ⟨rfl, hB.out⟩

end Go.Proofs.Ytakhjdodljhfmaa.Tx

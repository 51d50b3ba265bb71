/-
  What the helpers over a list of strings answer: szStringS counts it, toStringS copies it into new memory, eqStringS compares two. Conditions: lengths fit an int; a copied list has at most 1048576 strings.
-/
import Derived.WalkKit
import Derived.Deep.OwnRows
import Derived.ProofKit
import Derived.Deep.Draws
import Derived.Deep.QuietTactic
import Derived.BigQuiet
import Derived.Lib.Hide
import Derived.Test.YtakhjdodljhfmaaProg
import Derived.Test.YtakhjdodljhfmaaLow
namespace Go.Proofs.Ytakhjdodljhfmaa.Tx
open Go.RowKit

/-- The slice value '.slice A n _' holds the strings ss, in a block below B (of an empty one nothing is asked). -/
def Strs (w : World) (B : Nat) (A : Option Addr) (n : Nat) (ss : List ByteArray) : Prop :=
  ss.length = n ∧ (0 < n → ∃ b off, A = some ⟨b, off, none⟩ ∧ b < B ∧ ∀ j, j < n → w.cell? ⟨b, off + j, none⟩ = some (.string (ss[j]?.getD ByteArray.empty)))

theorem Strs.below {w w' : World} {B : Nat} {A : Option Addr} {n : Nat} {ss : List ByteArray} (h : Strs w B A n ss) (hb : Below B w w') : Strs w' B A n ss :=
  ⟨h.1, fun hn => by
    obtain ⟨b, off, rfl, hlt, hc⟩ := h.2 hn
    exact ⟨b, off, rfl, hlt, fun j hj => (hb.cell (p := ⟨b, off + j, none⟩) hlt).trans (hc j hj)⟩⟩
theorem Strs.mono {w : World} {B B' : Nat} {A : Option Addr} {n : Nat} {ss : List ByteArray} (h : Strs w B A n ss) (hB : B ≤ B') : Strs w B' A n ss :=
  ⟨h.1, fun hn => by
    obtain ⟨b, off, rfl, hlt, hc⟩ := h.2 hn
    exact ⟨b, off, rfl, by omega, hc⟩⟩
theorem Strs.of_row {w : World} {b n : Nat} {t : TypeId} {ss : List ByteArray} (h : w.rowIs b t n (fun i => .string (ss[i]?.getD ByteArray.empty))) (hl : ss.length = n) : Strs w w.heap.size (some ⟨b, 0, none⟩) n ss :=
  ⟨hl, fun _ => ⟨b, 0, rfl, h.lt, fun j hj => by rw [Nat.zero_add]; exact h.cell hj⟩⟩

theorem Strs.take {w : World} {B : Nat} {A : Option Addr} {n : Nat} {ss : List ByteArray} (h : Strs w B A n ss) (k : Nat) (hk : k ≤ n) : Strs w B A k (ss.take k) := by
  refine ⟨by rw [List.length_take, h.1]; omega, fun h0 => ?_⟩
  obtain ⟨b, off, e, hb, hc⟩ := h.2 (by omega)
  exact ⟨b, off, e, hb, fun j hj => by rw [hc j (by omega)]; simp [hj]⟩
theorem strs_nil (w : World) (B : Nat) (A : Option Addr) : Strs w B A 0 [] := ⟨rfl, fun h => absurd h (by omega)⟩
theorem strs_of_open {w : World} {a : Addr} {ss : List ByteArray} {len : Nat} (hl : len ≤ ss.length) (hcell : ∀ i, i < ss.length → w.cell? (a.add i) = some (.string (ss.getD i ByteArray.empty))) :
    Strs w w.heap.size (some a) len (ss.take len) := by
  refine ⟨by simp; omega, fun hn => ?_⟩
  obtain ⟨b, off, spot⟩ := a
  have h0 := hcell 0 (by omega)
  have hspot : spot = none := by simpa [Addr.add] using World.cell?_spot h0
  subst hspot
  refine ⟨b, off, rfl, World.block_lt_of_cell? _ _ h0, fun j hj => ?_⟩
  rw [← Go.WideShapes.add_plain, hcell j (by omega)]
  simp [hj]

/-- All their bytes together. -/
def sumB (ss : List ByteArray) : Nat := (ss.map (·.size)).sum
theorem sumB_nil : sumB [] = 0 := rfl
theorem sumB_append (a b : List ByteArray) : sumB (a ++ b) = sumB a + sumB b := by simp [sumB]
theorem sumB_snoc (ss : List ByteArray) (s : ByteArray) : sumB (ss ++ [s]) = sumB ss + s.size := by simp [sumB]
theorem take_snocL (ss : List ByteArray) (k : Nat) (h : k < ss.length) : ss.take (k + 1) = ss.take k ++ [ss[k]?.getD ByteArray.empty] := by
  rw [List.take_succ_eq_append_getElem h, List.getElem?_eq_getElem h]; rfl
theorem sumB_take_succ (ss : List ByteArray) (k : Nat) (h : k < ss.length) : sumB (ss.take (k + 1)) = sumB (ss.take k) + (ss[k]?.getD ByteArray.empty).size := by
  rw [take_snocL ss k h, sumB_snoc]
theorem sumB_take_le (ss : List ByteArray) (k : Nat) : sumB (ss.take k) ≤ sumB ss := by
  have h : sumB ss = sumB (ss.take k) + sumB (ss.drop k) := by rw [← sumB_append, List.take_append_drop]
  omega

/-- What szStringS answers: what is left, or -1. -/
def szL (ss : List ByteArray) (left : Int) : Int := if left - ss.length - sumB ss < 0 then -1 else left - ss.length - sumB ss
theorem szL_neg {ss : List ByteArray} {left : Int} (k : Nat) (h : left - ss.length - sumB (ss.take k) < 0) : szL ss left = -1 := by
  have := sumB_take_le ss k
  unfold szL
  rw [if_pos (by omega)]
theorem szL_all {ss : List ByteArray} {left : Int} (h : 0 ≤ left - ss.length - sumB ss) : szL ss left = left - ss.length - sumB ss := by
  unfold szL
  rw [if_neg (by omega)]

theorem szL_ge {ss : List ByteArray} (h : ¬ szL ss 1048576 < 0) : ss.length + sumB ss ≤ 1048576 := by
  unfold szL at h
  split at h <;> omega

theorem szL_ge' {ss : List ByteArray} {l : Int} (h : ¬ szL ss l < 0) : ((ss.length + sumB ss : Nat) : Int) ≤ l := by
  unfold szL at h
  split at h <;> omega
theorem szL_le (ss : List ByteArray) (l : Int) (h : 0 ≤ l) : szL ss l ≤ l := by
  unfold szL
  split <;> omega

theorem Kp.strs {w w' : World} (h : Kp w w') {A : Option Addr} {n : Nat} {ss : List ByteArray} (s : Strs w w.heap.size A n ss) : Strs w' w'.heap.size A n ss := (s.below h.bel).mono h.bel.size



theorem infoString : (Try.prog.info? 9).map (fun i => (i.zero, i.size, i.bytes)) = some (some (.string ByteArray.empty), 1, 16) := by kernel_rfl

/-- What toStringS leaves: a new block with the strings ss; nothing that lay has turned. -/
structure Copied (w : World) (n : Nat) (ss : List ByteArray) (w' : World) : Prop where
  row : w'.rowIs w.heap.size 9 n (fun i => .string (ss[i]?.getD ByteArray.empty))
  bel : Below w.heap.size w w'


theorem str_ne {s t : ByteArray} (h : s ≠ t) : (s.toList == t.toList) = false := by
  rw [ByteArray.toList_eq, ByteArray.toList_eq, beq_eq_false_iff_ne]
  intro e
  apply h
  cases s
  cases t
  simpa using e

theorem take_eq_succ {ss ts : List ByteArray} {k : Nat} (h1 : k < ss.length) (h2 : k < ts.length) (h : ss.take k = ts.take k) (e : ss[k]?.getD ByteArray.empty = ts[k]?.getD ByteArray.empty) : ss.take (k + 1) = ts.take (k + 1) := by
  rw [take_snocL ss k h1, take_snocL ts k h2, h, e]

set_option maxHeartbeats 1000000 in
theorem eqStringS_any (A B : Option Addr) (n m ca cb : Nat) (ss ts : List ByteArray) (w : World) (hA : Strs w w.heap.size A n ss) (hB : Strs w w.heap.size B m ts) (hn : n ≤ 1048576) (hm : m ≤ 1048576) :
    Calls Try.prog 46 #[.slice A n ca, .slice B m cb] w fun e w' => e = .returned (.bool (decide (ss = ts))) ∧ ∃ q, w' = w.drewN q := by
  obtain ⟨hlA, hcA⟩ := hA
  obtain ⟨hlB, hcB⟩ := hB
  have HA := Lib.hid hcA
  have HB := Lib.hid hcB
  have LA := Lib.hid hlA
  have LB := Lib.hid hlB
  clear hcA hcB hlA hlB
  by_cases hnm : n = m
  · subst hnm
    go_enter Try.func46, Try.ntmps46
    go_wp2
    go_loopw [5] (fun i wr => ∃ k : Nat, k ≤ n ∧ i = .int .i64 k ∧ ss.take k = ts.take k ∧ ∃ q, wr = w.drewN q) (fun i _ => n - (intOf i).toNat)
    case atStart => exact ⟨0, Nat.zero_le _, rfl, by simp, 0, rfl⟩
    case round =>
      obtain ⟨k, hk, rfl, htk, q, hq⟩ := hrel
      have HT := Lib.hid htk
      by_cases hlt : k < n
      · obtain ⟨b, off, rfl, hb, hc⟩ := HA.out (by omega)
        obtain ⟨b', off', rfl, hb', hc'⟩ := HB.out (by omega)
        have g1 : wr.cell? ⟨b, off + k, none⟩ = some (.string (ss[k]?.getD ByteArray.empty)) := by rw [hq]; exact hc k hlt
        have g2 : wr.cell? ⟨b', off' + k, none⟩ = some (.string (ts[k]?.getD ByteArray.empty)) := by rw [hq]; exact hc' k hlt
        have HQ := Lib.hid hq
        clear htk hq hc hc'
        obtain ⟨s, hs⟩ : ∃ s, s = ss[k]?.getD ByteArray.empty := ⟨_, rfl⟩
        obtain ⟨t, ht⟩ : ∃ t, t = ts[k]?.getD ByteArray.empty := ⟨_, rfl⟩
        rw [← hs] at g1
        rw [← ht] at g2
        have HS := Lib.hid hs
        have HTT := Lib.hid ht
        clear hs ht
        by_cases hst : s = t
        · subst hst
          go_wp2
          go_quiet (fail)
          go_wp2
          go_roundw
          case rel => exact ⟨k + 1, by omega, by go_num, take_eq_succ (by rw [LA.out]; exact hlt) (by rw [LB.out]; exact hlt) HT.out (HS.out.symm.trans HTT.out), q + nq, by rw [HQ.out, World.drewN_drewN]⟩
          case measure => simp [intOf]; omega
        · have hne := str_ne hst
          have HR : Hid (decide (ss = ts) = false) := by
            show _ = _
            rw [decide_eq_false_iff_not]
            rintro rfl
            exact hst (HS.out.trans HTT.out.symm)
          clear hst
          go_wp2
          go_quiet (fail)
          go_wp2
          go_ret
          exact ⟨by rw [HR.out]; rfl, q + nq, by rw [HQ.out, World.drewN_drewN]⟩
      · have HR : Hid (decide (ss = ts) = true) := by
          show _ = _
          rw [decide_eq_true_iff]
          rw [List.take_of_length_le (by rw [LA.out]; omega), List.take_of_length_le (by rw [LB.out]; omega)] at htk
          exact htk
        have HQ := Lib.hid hq
        clear htk hq
        go_wp2
        go_ret
        exact ⟨by rw [HR.out]; rfl, q, HQ.out⟩
  · have HR : Hid (decide (ss = ts) = false) := by
      show _ = _
      rw [decide_eq_false_iff_not]
      rintro rfl
      exact hnm (LA.out.symm.trans LB.out)
    have hd : ((n : Int) == (m : Int)) = false := by
      rw [beq_eq_false_iff_ne]; omega
    go_enter Try.func46, Try.ntmps46
    go_wp2
    go_ret
    exact ⟨by rw [HR.out]; rfl, 0, rfl⟩

end Go.Proofs.Ytakhjdodljhfmaa.Tx

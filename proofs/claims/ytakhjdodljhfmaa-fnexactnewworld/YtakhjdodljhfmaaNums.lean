/-
  What the helpers over a list of numbers answer: toInt64S copies it into new memory, eqInt64S compares two. Condition: the list has at most 1048576 numbers.
-/
import Derived.WalkKit
import Derived.Deep.OwnRows
import Derived.ProofKit
import Derived.Deep.Draws
import Derived.Deep.QuietTactic
import Derived.BigQuiet
import Derived.Lib.Hide
import Derived.Test.YtakhjdodljhfmaaProg
import Derived.Test.YtakhjdodljhfmaaLow
namespace Go.Proofs.Ytakhjdodljhfmaa.Tx
open Go.RowKit

/-- The slice value '.slice A n _' holds the numbers zs, in a block below B (of an empty one nothing is asked). -/
def Nums (w : World) (B : Nat) (A : Option Addr) (n : Nat) (zs : List Int) : Prop :=
  zs.length = n ∧ (0 < n → ∃ b off, A = some ⟨b, off, none⟩ ∧ b < B ∧ ∀ j, j < n → w.cell? ⟨b, off + j, none⟩ = some (.int .i64 (zs[j]?.getD 0)))

theorem Nums.below {w w' : World} {B : Nat} {A : Option Addr} {n : Nat} {zs : List Int} (h : Nums w B A n zs) (hb : Below B w w') : Nums w' B A n zs :=
  ⟨h.1, fun hn => by
    obtain ⟨b, off, rfl, hlt, hc⟩ := h.2 hn
    exact ⟨b, off, rfl, hlt, fun j hj => (hb.cell (p := ⟨b, off + j, none⟩) hlt).trans (hc j hj)⟩⟩
theorem Nums.mono {w : World} {B B' : Nat} {A : Option Addr} {n : Nat} {zs : List Int} (h : Nums w B A n zs) (hB : B ≤ B') : Nums w B' A n zs :=
  ⟨h.1, fun hn => by
    obtain ⟨b, off, rfl, hlt, hc⟩ := h.2 hn
    exact ⟨b, off, rfl, by omega, hc⟩⟩
theorem Nums.of_row {w : World} {b n : Nat} {t : TypeId} {zs : List Int} (h : w.rowIs b t n (fun i => .int .i64 (zs[i]?.getD 0))) (hl : zs.length = n) : Nums w w.heap.size (some ⟨b, 0, none⟩) n zs :=
  ⟨hl, fun _ => ⟨b, 0, rfl, h.lt, fun j hj => by rw [Nat.zero_add]; exact h.cell hj⟩⟩
theorem Nums.take {w : World} {B : Nat} {A : Option Addr} {n : Nat} {zs : List Int} (h : Nums w B A n zs) (k : Nat) (hk : k ≤ n) : Nums w B A k (zs.take k) := by
  refine ⟨by rw [List.length_take, h.1]; omega, fun h0 => ?_⟩
  obtain ⟨b, off, e, hb, hc⟩ := h.2 (by omega)
  exact ⟨b, off, e, hb, fun j hj => by rw [hc j (by omega)]; simp [hj]⟩
theorem nums_nil (w : World) (B : Nat) (A : Option Addr) : Nums w B A 0 [] := ⟨rfl, fun h => absurd h (by omega)⟩
theorem nums_of_open {w : World} {a : Addr} {zs : List Int} {len : Nat} (hl : len ≤ zs.length) (hcell : ∀ i, i < zs.length → w.cell? (a.add i) = some (.int .i64 (zs.getD i 0))) :
    Nums w w.heap.size (some a) len (zs.take len) := by
  refine ⟨by simp; omega, fun hn => ?_⟩
  obtain ⟨b, off, spot⟩ := a
  have h0 := hcell 0 (by omega)
  have hspot : spot = none := by simpa [Addr.add] using World.cell?_spot h0
  subst hspot
  refine ⟨b, off, rfl, World.block_lt_of_cell? _ _ h0, fun j hj => ?_⟩
  rw [← Go.WideShapes.add_plain, hcell j (by omega)]
  simp [hj]
theorem Kp.nums {w w' : World} (h : Kp w w') {A : Option Addr} {n : Nat} {zs : List Int} (s : Nums w w.heap.size A n zs) : Nums w' w'.heap.size A n zs := (s.below h.bel).mono h.bel.size

theorem infoInt64 : (Try.prog.info? 2).map (fun i => (i.zero, i.size, i.bytes)) = some (some (.int .i64 0), 1, 8) := by kernel_rfl


theorem take_snocN (zs : List Int) (k : Nat) (h : k < zs.length) : zs.take (k + 1) = zs.take k ++ [zs[k]?.getD 0] := by
  rw [List.take_succ_eq_append_getElem h, List.getElem?_eq_getElem h]; rfl
theorem take_eq_succN {ss ts : List Int} {k : Nat} (h1 : k < ss.length) (h2 : k < ts.length) (h : ss.take k = ts.take k) (e : ss[k]?.getD 0 = ts[k]?.getD 0) : ss.take (k + 1) = ts.take (k + 1) := by
  rw [take_snocN ss k h1, take_snocN ts k h2, h, e]

set_option maxHeartbeats 1000000 in
theorem eqInt64S_any (A B : Option Addr) (n m ca cb : Nat) (ss ts : List Int) (w : World) (hA : Nums w w.heap.size A n ss) (hB : Nums w w.heap.size B m ts) (hn : n ≤ 1048576) (hm : m ≤ 1048576) :
    Calls Try.prog 54 #[.slice A n ca, .slice B m cb] w fun e w' => e = .returned (.bool (decide (ss = ts))) ∧ ∃ q, w' = w.drewN q := by
  obtain ⟨hlA, hcA⟩ := hA
  obtain ⟨hlB, hcB⟩ := hB
  have HA := Lib.hid hcA
  have HB := Lib.hid hcB
  have LA := Lib.hid hlA
  have LB := Lib.hid hlB
  clear hcA hcB hlA hlB
  by_cases hnm : n = m
  · subst hnm
    go_enter Try.func54, Try.ntmps54
    go_wp2
    go_loopw [5] (fun i wr => ∃ k : Nat, k ≤ n ∧ i = .int .i64 k ∧ ss.take k = ts.take k ∧ ∃ q, wr = w.drewN q) (fun i _ => n - (intOf i).toNat)
    case atStart => exact ⟨0, Nat.zero_le _, rfl, by simp, 0, rfl⟩
    case round =>
      obtain ⟨k, hk, rfl, htk, q, hq⟩ := hrel
      have HT := Lib.hid htk
      by_cases hlt : k < n
      · obtain ⟨b, off, rfl, hb, hc⟩ := HA.out (by omega)
        obtain ⟨b', off', rfl, hb', hc'⟩ := HB.out (by omega)
        have g1 : wr.cell? ⟨b, off + k, none⟩ = some (.int .i64 (ss[k]?.getD 0)) := by rw [hq]; exact hc k hlt
        have g2 : wr.cell? ⟨b', off' + k, none⟩ = some (.int .i64 (ts[k]?.getD 0)) := by rw [hq]; exact hc' k hlt
        have HQ := Lib.hid hq
        clear htk hq hc hc'
        obtain ⟨s, hs⟩ : ∃ s, s = ss[k]?.getD 0 := ⟨_, rfl⟩
        obtain ⟨t, ht⟩ : ∃ t, t = ts[k]?.getD 0 := ⟨_, rfl⟩
        rw [← hs] at g1
        rw [← ht] at g2
        have HS := Lib.hid hs
        have HTT := Lib.hid ht
        clear hs ht
        by_cases hst : s = t
        · subst hst
          go_wp2
          go_quiet (fail)
          go_wp2
          go_roundw
          case rel => exact ⟨k + 1, by omega, by go_num, take_eq_succN (by rw [LA.out]; exact hlt) (by rw [LB.out]; exact hlt) HT.out (HS.out.symm.trans HTT.out), q + nq, by rw [HQ.out, World.drewN_drewN]⟩
          case measure => simp [intOf]; omega
        · have hne : (s == t) = false := by rw [beq_eq_false_iff_ne]; exact hst
          have HR : Hid (decide (ss = ts) = false) := by
            show _ = _
            rw [decide_eq_false_iff_not]
            rintro rfl
            exact hst (HS.out.trans HTT.out.symm)
          clear hst
          go_wp2
          go_quiet (fail)
          go_wp2
          go_ret
          exact ⟨by rw [HR.out]; rfl, q + nq, by rw [HQ.out, World.drewN_drewN]⟩
      · have HR : Hid (decide (ss = ts) = true) := by
          show _ = _
          rw [decide_eq_true_iff]
          rw [List.take_of_length_le (by rw [LA.out]; omega), List.take_of_length_le (by rw [LB.out]; omega)] at htk
          exact htk
        have HQ := Lib.hid hq
        clear htk hq
        go_wp2
        go_ret
        exact ⟨by rw [HR.out]; rfl, q, HQ.out⟩
  · have HR : Hid (decide (ss = ts) = false) := by
      show _ = _
      rw [decide_eq_false_iff_not]
      rintro rfl
      exact hnm (LA.out.symm.trans LB.out)
    have hd : ((n : Int) == (m : Int)) = false := by
      rw [beq_eq_false_iff_ne]; omega
    go_enter Try.func54, Try.ntmps54
    go_wp2
    go_ret
    exact ⟨by rw [HR.out]; rfl, 0, rfl⟩

end Go.Proofs.Ytakhjdodljhfmaa.Tx

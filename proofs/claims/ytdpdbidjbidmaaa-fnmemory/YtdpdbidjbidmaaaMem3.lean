/-
  What the model's functions on memories answer: SeenIn, MemoryOk, NewMemory, MayHear, Noted. Condition: the list has at most 1048576 numbers.
-/
import Derived.Test.YtdpdbidjbidmaaaMem0
import Derived.Test.YtdpdbidjbidmaaaMem2
import Derived.Test.YtdpdbidjbidmaaaDraw2
import Derived.Test.YtdpdbidjbidmaaaRegionO
namespace Go.Proofs.Ytdpdbidjbidmaaa.Tx
open Go.RowKit

theorem l6Time_any (n : Int) (w : World) : Calls Try.prog 45 #[.int .i64 n] w fun e w' => e = .returned (.bool (inB n 0 100000)) ∧ w = w' := by
  generalize hb : inB n 0 100000 = b
  have hc := l1In_b n 0 100000
  rw [hb] at hc
  go_enter Try.func45, Try.ntmps45
  go_wp2_with (go_at_call 60; refine (hc _).mono ?_; rintro e w' ⟨rfl, rfl⟩)
  go_ret
  exact ⟨rfl, rfl⟩

set_option maxHeartbeats 1000000 in
theorem SeenIn_spec (A : Option Addr) (n cap : Nat) (zs : List Int) (s x : Int) (w : World) (h : Nums w w.heap.size A n zs) (hn : n ≤ 1048576) :
    Calls Try.prog 18 #[.agg #[.slice A n cap, .int .i64 s], .int .i64 x] w fun e w' => e = .returned (.bool (decide (x ∈ zs))) ∧ Below w.heap.size w w' := by
  have HL := Lib.hid h.1
  have hb : Below w.heap.size w (w.alloc (.cells #[.slice A n cap, .int .i64 s] 26)) := (Below.refl _ w).alloc (Nat.le_refl _) _
  obtain ⟨V, hV⟩ : ∃ V, w.alloc (.cells #[.slice A n cap, .int .i64 s] 26) = V := ⟨_, rfl⟩
  have K : Hid (Below w.heap.size w V) := by rw [← hV]; exact hb
  have HC := Lib.hid (h.on K.out).2
  have B0 : Hid (V.heap[w.heap.size]? = some (.cells #[.slice A n cap, .int .i64 s] 26)) := by rw [← hV]; exact heap1 w _
  clear h hb
  obtain ⟨⟨a0, a1⟩, _⟩ := blk2 B0.out
  go_enter Try.func18, Try.ntmps18
  go_wp2
  clear hV
  go_loopw [5] (fun i wr => ∃ j : Nat, j ≤ n ∧ i = .int .i64 j ∧ Hid (x ∉ zs.take j) ∧ Hid (wr = V)) (fun i _ => n - (intOf i).toNat)
  case atStart => exact ⟨0, Nat.zero_le _, rfl, by show x ∉ _; simp, rfl⟩
  case round =>
    obtain ⟨j, hj, rfl, hx, hw⟩ := hrel
    rw [← hw.out] at a0
    by_cases hlt : j < n
    · obtain ⟨b, off, rfl, hb, hc⟩ := HC.out (by omega)
      have hck := hc j hlt
      obtain ⟨y, hy⟩ : ∃ y, y = zs[j]?.getD 0 := ⟨_, rfl⟩
      rw [← hy, ← hw.out] at hck
      have HY := Lib.hid hy
      clear hc hy
      by_cases hxy : y = x
      · have HR : Hid (decide (x ∈ zs) = true) := by
          show _ = _
          rw [decide_eq_true_iff, ← hxy, HY.out, List.getElem?_eq_getElem (by rw [HL.out]; exact hlt)]
          exact List.getElem_mem _
        subst hxy
        go_wp2
        go_ret
        exact ⟨by rw [HR.out]; rfl, by rw [hw.out]; exact K.out⟩
      · have hd : (y == x) = false := by rw [beq_eq_false_iff_ne]; exact hxy
        have HN : Hid (x ∉ zs.take (j + 1)) := fun hm => by
          rcases (mem_take_succ (by rw [HL.out]; exact hlt) x).1 hm with h1 | h1
          · exact hx.out h1
          · exact hxy (HY.out.trans h1.symm)
        clear hxy
        go_wp2
        go_roundw
        case rel => exact ⟨j + 1, by omega, by go_num, HN, hw⟩
        case measure => simp [intOf]; omega
    · have HR : Hid (decide (x ∈ zs) = false) := by
        show _ = _
        have := hx.out
        rw [List.take_of_length_le (by rw [HL.out]; omega)] at this
        exact decide_eq_false this
      go_wp2
      go_ret
      exact ⟨by rw [HR.out]; rfl, by rw [hw.out]; exact K.out⟩

theorem memB_no {zs : List Int} {s : Int} {j : Nat} (hj : j < zs.length) (h : isDrawB (zs[j]?.getD 0) = false) : memB zs s = false := by
  cases hm : memB zs s
  · rfl
  · have := (memB_true hm).1 (zs[j]?.getD 0) (by rw [List.getElem?_eq_getElem hj]; exact List.getElem_mem _)
    rw [h] at this; exact this.symm

set_option maxHeartbeats 2000000 in
theorem MemoryOk_spec (A : Option Addr) (n cap : Nat) (zs : List Int) (s : Int) (w : World) (h : Nums w w.heap.size A n zs) (hn : n ≤ 1048576) :
    Calls Try.prog 20 #[.agg #[.slice A n cap, .int .i64 s]] w fun e w' => e = .returned (.bool (memB zs s)) ∧ Below w.heap.size w w' := by
  have HL := Lib.hid h.1
  obtain ⟨V, hV⟩ : ∃ V, w.alloc (.cells #[.slice A n cap, .int .i64 s] 26) = V := ⟨_, rfl⟩
  have K : Hid (Below w.heap.size w V) := by rw [← hV]; exact (Below.refl _ w).alloc (Nat.le_refl _) _
  have HC := Lib.hid (h.on K.out)
  have B0 : Hid (V.heap[w.heap.size]? = some (.cells #[.slice A n cap, .int .i64 s] 26)) := by rw [← hV]; exact heap1 w _
  clear h
  obtain ⟨⟨a0, a1⟩, _⟩ := blk2 B0.out
  go_enter Try.func20, Try.ntmps20
  go_wp2
  clear hV
  go_loopw [3] (fun i wr => ∃ j : Nat, j ≤ n ∧ i = .int .i64 j ∧ Hid (∀ z ∈ zs.take j, isDrawB z = true) ∧ Hid (wr = V)) (fun i _ => n - (intOf i).toNat)
  case atStart => exact ⟨0, Nat.zero_le _, rfl, fun z hz => by simp at hz, rfl⟩
  case round =>
    obtain ⟨j, hj, rfl, hx, hw⟩ := hrel
    rw [← hw.out] at a0 a1
    by_cases hlt : j < n
    · obtain ⟨b, off, rfl, hb, hc⟩ := HC.out.2 (by omega)
      have hck := hc j hlt
      obtain ⟨y, hy⟩ : ∃ y, y = zs[j]?.getD 0 := ⟨_, rfl⟩
      rw [← hy, ← hw.out] at hck
      have HY := Lib.hid hy
      clear hc hy
      have hcall := IsDraw_spec y wr
      cases hd : isDrawB y with
      | false =>
        have HR : Hid (memB zs s = false) := memB_no (j := j) (by rw [HL.out]; exact hlt) (HY.out ▸ hd)
        rw [hd] at hcall
        clear hd
        go_wp2_with (go_at_call 44; refine hcall.mono ?_; rintro e w1 ⟨rfl, rfl⟩)
        go_ret
        exact ⟨by rw [HR.out]; rfl, by rw [hw.out]; exact K.out⟩
      | true =>
        have HN : Hid (∀ z ∈ zs.take (j + 1), isDrawB z = true) := fun z hm => by
          rcases (mem_take_succ (by rw [HL.out]; exact hlt) z).1 hm with h1 | h1
          · exact hx.out z h1
          · rw [h1, ← HY.out]; exact hd
        rw [hd] at hcall
        clear hd
        go_wp2_with (go_at_call 44; refine hcall.mono ?_; rintro e w1 ⟨rfl, rfl⟩)
        go_roundw
        case rel => exact ⟨j + 1, by omega, by go_num, HN, hw⟩
        case measure => simp [intOf]; omega
    · have HD : Hid (zs.all isDrawB = true) := by
        have := hx.out
        rw [List.take_of_length_le (by rw [HL.out]; omega)] at this
        exact List.all_eq_true.2 this
      have HM : Hid (memB zs s = (decide (n ≤ 6) && (unlikeB zs && inB s 0 100000))) := by
        show _ = _
        unfold memB
        rw [HD.out, Bool.true_and, HL.out]
      have hcU : Calls Try.prog 48 #[.slice A n cap] wr fun e w' => e = .returned (.bool (unlikeB zs)) ∧ ∃ q, w' = wr.drewN q := by
        rw [hw.out]; exact AllUnlike_spec A n cap zs V HC.out hn
      have hcT := l6Time_any s
      rw [← hw.out] at K
      by_cases h6 : n ≤ 6
      · cases hu : unlikeB zs with
        | false =>
          rw [hu] at hcU
          have HR : Hid (memB zs s = false) := by show _ = _; rw [HM.out, hu]; simp
          clear hu
          go_wp2_with (go_at_call 48; refine hcU.mono ?_; rintro e w1 ⟨rfl, q, hq⟩; have HQ := Lib.hid hq; clear hq)
          go_ret
          exact ⟨by rw [HR.out]; rfl, by rw [HQ.out]; exact drewN_below K.out q⟩
        | true =>
          rw [hu] at hcU
          cases ht : inB s 0 100000 with
          | false =>
            rw [ht] at hcT
            have HR : Hid (memB zs s = false) := by show _ = _; rw [HM.out, ht]; simp
            clear hu ht
            go_wp2_with (first | (go_at_call 48; refine hcU.mono ?_; rintro e w1 ⟨rfl, q, hq⟩; have HQ := Lib.hid hq; have a2 : w1.cell? ⟨w.heap.size, 1, none⟩ = some (.int .i64 s) := by (rw [hq]; exact a1)); clear hq | (go_at_call 45; refine (hcT _).mono ?_; rintro e w2 ⟨rfl, rfl⟩))
            go_ret
            exact ⟨by rw [HR.out]; rfl, by rw [HQ.out]; exact drewN_below K.out q⟩
          | true =>
            rw [ht] at hcT
            have HR : Hid (memB zs s = true) := by show _ = _; rw [HM.out, ht, hu, decide_eq_true h6]; rfl
            clear hu ht
            go_wp2_with (first | (go_at_call 48; refine hcU.mono ?_; rintro e w1 ⟨rfl, q, hq⟩; have HQ := Lib.hid hq; have a2 : w1.cell? ⟨w.heap.size, 1, none⟩ = some (.int .i64 s) := by (rw [hq]; exact a1)); clear hq | (go_at_call 45; refine (hcT _).mono ?_; rintro e w2 ⟨rfl, rfl⟩))
            go_ret
            exact ⟨by rw [HR.out]; rfl, by rw [HQ.out]; exact drewN_below K.out q⟩
      · have HR : Hid (memB zs s = false) := by show _ = _; rw [HM.out, decide_eq_false h6]; rfl
        go_wp2
        go_ret
        exact ⟨by rw [HR.out]; rfl, K.out⟩

end Go.Proofs.Ytdpdbidjbidmaaa.Tx

/-
  What Fresh of the program answers. Conditions: the token's numbers are int64; the library's table of powers of ten holds what its text lays in it.
-/
import Derived.Test.YtoffdlokndngeaaGreatDoorImpl6b
import Derived.Test.YtoffdlokndngeaaGreatDoorRegionR
namespace Go.Proofs.YtoffdlokndngeaaGreatDoor.Tx
open Go.RowKit

set_option maxHeartbeats 4000000 in
theorem Fresh_impl (t : TokV) (now : Int) (h0 : I64 t.s) (h1 : I64 t.b) (h2 : I64 t.l) (h3 : I64 t.m) (w : World) (ht : Tab w) :
    Calls Tryz.prog 34 #[t.val, .int .i64 now] w fun e w' => e = .returned (.bool (tokOkB t && sealedB t && inB now t.b (t.b + t.l))) ∧ Below w.heap.size w w' := by
  have cT := Lib.hid fun (w' : World) hT => TokenOk_impl t h0 h1 h2 h3 w' hT
  have hb : Hid ((tokOkB t && sealedB t) = true → 0 ≤ t.b ∧ t.b ≤ 100000 ∧ 1 ≤ t.l ∧ t.l ≤ 1000) := fun h => by
    rw [Bool.and_eq_true] at h
    have := tok_range h.1
    omega
  clear h0 h1 h2 h3
  generalize (tokOkB t && sealedB t) = z at cT hb ⊢
  obtain ⟨ts, tb, tl, tm, ⟨⟨pu, ps, ph, pa⟩, pn, pt, pp⟩⟩ := t
  dsimp only at hb ⊢
  have HT : Hid (TokV.val ⟨ts, tb, tl, tm, ⟨⟨pu, ps, ph, pa⟩, pn, pt, pp⟩⟩ = .agg #[.int .i64 ts, .int .i64 tb, .int .i64 tl, .int .i64 tm, .int .i64 pu, .int .i64 ps, .int .i64 ph, .int .i64 pa, .int .i64 pn, .string pt, .bool pp]) := rfl
  rw [HT.out] at cT ⊢
  clear HT
  obtain ⟨W0, hW0⟩ : ∃ W, w.alloc (.cells #[.int .i64 ts, .int .i64 tb, .int .i64 tl, .int .i64 tm, .int .i64 pu, .int .i64 ps, .int .i64 ph, .int .i64 pa, .int .i64 pn, .string pt, .bool pp] 39) = W := ⟨_, rfl⟩
  have K0 : Hid (Below w.heap.size w W0) := by rw [← hW0]; exact (Below.refl _ w).alloc (Nat.le_refl _) _
  have T0 : Hid (W0.heap[w.heap.size]? = some (.cells #[.int .i64 ts, .int .i64 tb, .int .i64 tl, .int .i64 tm, .int .i64 pu, .int .i64 ps, .int .i64 ph, .int .i64 pa, .int .i64 pn, .string pt, .bool pp] 39)) := by rw [← hW0]; exact heap1 w _
  have HTB := Lib.hid ht
  clear ht
  go_enter Tryz.func34, Tryz.ntmps34
  go_wp2_with (refine wpList_load_row rfl 39 _ rfl (w.heap.size) rfl 39 _ (0, 0) _ T0.out Tryz.underlying39 rfl (by kernel_rfl) ?_)
  clear hW0
  refine (cT.out _ (HTB.out.on K0.out)).mono ?_
  rintro e w1 ⟨rfl, hb⟩
  have T1 := Lib.hid (blk_on hb T0.out)
  have K1 := Lib.hid (K0.out.trans (hb.mono K0.out.size))
  clear hb T0 K0
  cases z with
  | false =>
    go_wp2
    go_ret
    exact ⟨rfl, K1.out⟩
  | true =>
    obtain ⟨hb0, hb1, hl0, hl1⟩ := hb.out (by first | assumption | rfl | trivial)
    have ct1 := blk_cell T1.out 1
    have ct2 := blk_cell T1.out 2
    simp only [List.getElem?_toArray, List.getElem?_cons_succ, List.getElem?_cons_zero] at ct1 ct2
    by_cases h1 : tb ≤ now
    ·
      by_cases h2 : now ≤ tb + tl
      ·
        go_wp2
        go_ret
        exact ⟨by rw [inB_mk ⟨h1, h2⟩]; simp, K1.out⟩
      ·
        go_wp2
        go_ret
        exact ⟨by rw [inB_no (.inr (by omega))]; simp [h2], K1.out⟩
    ·
      go_wp2
      go_ret
      exact ⟨by rw [inB_no (.inl (by omega))]; simp, K1.out⟩

end Go.Proofs.YtoffdlokndngeaaGreatDoor.Tx

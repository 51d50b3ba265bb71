/-
  What RowOk, Put and Take of the model answer, and what toRow and eqRow of the laws do. No conditions.
-/
import Derived.Deep.RegionHeld3
import Derived.Deep.DeepCutAuto
import Derived.Test.YtioogmeghmeelaaGreatBox
import Derived.Test.YtioogmeghmeelaaGreatRow0
namespace Go.Proofs.YtioogmeghmeelaaGreat.Tx
open Go.RowKit

theorem blk5 {w : World} {g : Nat} {v0 v1 v2 v3 v4 : Value} {t : TypeId} (h : w.heap[g]? = some (.cells #[v0, v1, v2, v3, v4] t (0, 0))) :
    (w.cell? ⟨g, 0, none⟩ = some v0 ∧ w.cell? ⟨g, 1, none⟩ = some v1 ∧ w.cell? ⟨g, 2, none⟩ = some v2 ∧ w.cell? ⟨g, 3, none⟩ = some v3 ∧ w.cell? ⟨g, 4, none⟩ = some v4) ∧
    (w.frozen? ⟨g, 0, none⟩ = false ∧ w.frozen? ⟨g, 1, none⟩ = false ∧ w.frozen? ⟨g, 2, none⟩ = false ∧ w.frozen? ⟨g, 3, none⟩ = false ∧ w.frozen? ⟨g, 4, none⟩ = false) :=
  ⟨⟨blk_cell h 0, blk_cell h 1, blk_cell h 2, blk_cell h 3, blk_cell h 4⟩, blk_frozen h 0, blk_frozen h 1, blk_frozen h 2, blk_frozen h 3, blk_frozen h 4⟩

set_option maxHeartbeats 1000000 in
theorem RowOk_spec (r : RowV) (w : World) : Calls Tryz.prog 53 #[r.val] w fun e w' => e = .returned (.bool (rowOkB r)) ∧ Below w.heap.size w w' := by
  obtain ⟨⟨u, s, h, a⟩, no⟩ := r
  have HV : Hid (RowV.val ⟨⟨u, s, h, a⟩, no⟩ = .agg #[.int .i64 u, .int .i64 s, .int .i64 h, .int .i64 a, .int .i64 no]) := rfl
  rw [HV.out]
  have hq := eq_agg u s h a 0 0 0 0
  have HB0 : Hid (Below w.heap.size w (w.alloc (.cells #[.int .i64 u, .int .i64 s, .int .i64 h, .int .i64 a, .int .i64 no] 65))) := (Below.refl _ w).alloc (Nat.le_refl _) _
  cases hz : KeyV.same ⟨u, s, h, a⟩ ⟨0, 0, 0, 0⟩ with
  | true =>
    have HR : Hid (rowOkB ⟨⟨u, s, h, a⟩, no⟩ = inB no 0 1000) := by show ((KeyV.same ⟨u, s, h, a⟩ ⟨0, 0, 0, 0⟩ || _) && _) = _; rw [hz]; rfl
    rw [hz] at hq
    clear hz
    go_enter Tryz.func53, Tryz.ntmps53
    go_wp2_with fail
    refine (l1In_b _ _ _ _).mono ?_
    rintro e w' ⟨rfl, rfl⟩
    obtain ⟨b, hb⟩ : ∃ b, inB no 0 1000 = b := ⟨_, rfl⟩
    rw [hb]
    have HRb := Lib.hid hb
    clear hb
    go_wp2
    go_ret
    exact ⟨by rw [HR.out, HRb.out]; rfl, HB0.out⟩
  | false =>
    rw [hz] at hq
    have HR : Hid (rowOkB ⟨⟨u, s, h, a⟩, no⟩ = (keyOkB ⟨u, s, h, a⟩ && inB no 0 1000)) := by show ((KeyV.same ⟨u, s, h, a⟩ ⟨0, 0, 0, 0⟩ || _) && _) = _; rw [hz]; rfl
    clear hz
    go_enter Tryz.func53, Tryz.ntmps53
    go_wp2_with fail
    refine (KeyOk_spec ⟨u, s, h, a⟩ _).mono ?_
    rintro e w1 ⟨rfl, hb⟩
    obtain ⟨⟨a0, a1, a2, a3, a4⟩, _⟩ := blk5 ((hb.block w.heap.size (by simp)).trans (heap1 w _))
    have HB := Lib.hid (below_new1 hb)
    clear hb
    cases hk : keyOkB ⟨u, s, h, a⟩ with
    | false =>
      rw [hk] at HR
      go_wp2
      go_ret
      exact ⟨by rw [HR.out]; rfl, HB.out⟩
    | true =>
      rw [hk] at HR
      go_wp2_with fail
      refine (l1In_b _ _ _ _).mono ?_
      rintro e w' ⟨rfl, rfl⟩
      obtain ⟨b, hb⟩ : ∃ b, inB no 0 1000 = b := ⟨_, rfl⟩
      rw [hb]
      have HRb := Lib.hid hb
      clear hb
      go_wp2
      go_ret
      exact ⟨by rw [HR.out, HRb.out]; rfl, HB.out⟩




set_option maxHeartbeats 1000000 in
theorem toRow_any (r : RowV) (w : World) : Calls Tryz.prog 57 #[r.val] w fun e w' => e = .returned r.val ∧ Below w.heap.size w w' := by
  obtain ⟨⟨u, s, h, a⟩, no⟩ := r
  have HV : Hid (RowV.val ⟨⟨u, s, h, a⟩, no⟩ = .agg #[.int .i64 u, .int .i64 s, .int .i64 h, .int .i64 a, .int .i64 no]) := rfl
  rw [HV.out]
  go_enter Tryz.func57, Tryz.ntmps57
  go_wp2_with fail
  refine (toKey_any ⟨u, s, h, a⟩ _).mono ?_
  rintro e w1 ⟨rfl, hb⟩
  have hx := blk_on hb (heap3a w _ _ _)
  have hr := blk_on hb (heap3b w _ _ _)
  have ho := blk_on hb (heap3c w _ _ _)
  obtain ⟨⟨a0, a1, a2, a3, a4⟩, _⟩ := blk5 hx
  obtain ⟨⟨b0, b1, b2, b3, b4⟩, p0, p1, p2, p3, p4⟩ := blk5 hr
  obtain ⟨⟨c0, c1, c2, c3, c4⟩, q0, q1, q2, q3, q4⟩ := blk5 ho
  have HRB := Lib.hid hr
  have HB := Lib.hid (below_new3 hb)
  clear hb hx hr ho
  unfold KeyV.val
  go_wp2
  exact row_ret (cs := (RowV.cells ⟨⟨u, s, h, a⟩, no⟩).toArray) rfl rfl (setAll_whole (vs := RowV.cells ⟨⟨u, s, h, a⟩, no⟩) (setAll_away (g := w.heap.size + 1 + 1) (by omega) (RowV.cells ⟨⟨u, s, h, a⟩, no⟩) 0 HRB.out) rfl) Tryz.underlying65 rfl (by kernel_rfl) rfl
    ⟨rfl, setAll_below (by omega) (RowV.cells ⟨⟨u, s, h, a⟩, no⟩) 0 (setAll_below (g := w.heap.size + 1 + 1) (by omega) (RowV.cells ⟨⟨u, s, h, a⟩, no⟩) 0 HB.out)⟩

set_option maxHeartbeats 1000000 in
theorem eqRow_same (r : RowV) (w : World) : Calls Tryz.prog 69 #[r.val, r.val] w fun e w' => e = .returned (.bool true) ∧ Below w.heap.size w w' := by
  obtain ⟨⟨u, s, h, a⟩, no⟩ := r
  have HV : Hid (RowV.val ⟨⟨u, s, h, a⟩, no⟩ = .agg #[.int .i64 u, .int .i64 s, .int .i64 h, .int .i64 a, .int .i64 no]) := rfl
  rw [HV.out]
  go_enter Tryz.func69, Tryz.ntmps69
  go_wp2_with fail
  refine (eqKey_same ⟨u, s, h, a⟩ _).mono ?_
  rintro e w1 ⟨rfl, hb⟩
  obtain ⟨⟨a0, a1, a2, a3, a4⟩, _⟩ := blk5 (blk_on hb (heap2a w _ _))
  obtain ⟨⟨b0, b1, b2, b3, b4⟩, _⟩ := blk5 (blk_on hb (heap2b w _ _))
  have HB := Lib.hid (below_new2 hb)
  clear hb
  go_wp2
  go_ret
  exact ⟨rfl, HB.out⟩

end Go.Proofs.YtioogmeghmeelaaGreat.Tx

/-
  What RowOk, Put and Take of the model answer, and what toRow and eqRow of the laws do. No conditions.
-/
import Derived.Deep.RegionHeld3
import Derived.Deep.DeepCutAuto
import Derived.Test.YtioogmeghmeelaaGreatDoorBox
import Derived.Test.YtioogmeghmeelaaGreatDoorOwn
namespace Go.Proofs.YtioogmeghmeelaaGreatDoor.Tx
open Go.RowKit

theorem blk5 {w : World} {g : Nat} {v0 v1 v2 v3 v4 : Value} {t : TypeId} (h : w.heap[g]? = some (.cells #[v0, v1, v2, v3, v4] t (0, 0))) :
    (w.cell? ⟨g, 0, none⟩ = some v0 ∧ w.cell? ⟨g, 1, none⟩ = some v1 ∧ w.cell? ⟨g, 2, none⟩ = some v2 ∧ w.cell? ⟨g, 3, none⟩ = some v3 ∧ w.cell? ⟨g, 4, none⟩ = some v4) ∧
    (w.frozen? ⟨g, 0, none⟩ = false ∧ w.frozen? ⟨g, 1, none⟩ = false ∧ w.frozen? ⟨g, 2, none⟩ = false ∧ w.frozen? ⟨g, 3, none⟩ = false ∧ w.frozen? ⟨g, 4, none⟩ = false) :=
  ⟨⟨blk_cell h 0, blk_cell h 1, blk_cell h 2, blk_cell h 3, blk_cell h 4⟩, blk_frozen h 0, blk_frozen h 1, blk_frozen h 2, blk_frozen h 3, blk_frozen h 4⟩

set_option maxHeartbeats 1000000 in
theorem RowOk_spec (r : RowV) (w : World) : Calls Tryz.prog 56 #[r.val] w fun e w' => e = .returned (.bool (rowOkB r)) ∧ Below w.heap.size w w' := by
  obtain ⟨⟨u, s, h, a⟩, no⟩ := r
  have HV : Hid (RowV.val ⟨⟨u, s, h, a⟩, no⟩ = .agg #[.int .i64 u, .int .i64 s, .int .i64 h, .int .i64 a, .int .i64 no]) := rfl
  rw [HV.out]
  have hq := eq_agg u s h a 0 0 0 0
  have HB0 : Hid (Below w.heap.size w (w.alloc (.cells #[.int .i64 u, .int .i64 s, .int .i64 h, .int .i64 a, .int .i64 no] 54))) := (Below.refl _ w).alloc (Nat.le_refl _) _
  cases hz : KeyV.same ⟨u, s, h, a⟩ ⟨0, 0, 0, 0⟩ with
  | true =>
    have HR : Hid (rowOkB ⟨⟨u, s, h, a⟩, no⟩ = inB no 0 1000) := by show ((KeyV.same ⟨u, s, h, a⟩ ⟨0, 0, 0, 0⟩ || _) && _) = _; rw [hz]; rfl
    rw [hz] at hq
    clear hz
    go_enter Tryz.func56, Tryz.ntmps56
    go_wp2_with fail
    refine (l1In_b _ _ _ _).mono ?_
    rintro e w' ⟨rfl, rfl⟩
    obtain ⟨b, hb⟩ : ∃ b, inB no 0 1000 = b := ⟨_, rfl⟩
    rw [hb]
    have HRb := Lib.hid hb
    clear hb
    go_wp2
    go_ret
    exact ⟨by rw [HR.out, HRb.out]; rfl, HB0.out⟩
  | false =>
    rw [hz] at hq
    have HR : Hid (rowOkB ⟨⟨u, s, h, a⟩, no⟩ = (keyOkB ⟨u, s, h, a⟩ && inB no 0 1000)) := by show ((KeyV.same ⟨u, s, h, a⟩ ⟨0, 0, 0, 0⟩ || _) && _) = _; rw [hz]; rfl
    clear hz
    go_enter Tryz.func56, Tryz.ntmps56
    go_wp2_with fail
    refine (KeyOk_spec ⟨u, s, h, a⟩ _).mono ?_
    rintro e w1 ⟨rfl, hb⟩
    obtain ⟨⟨a0, a1, a2, a3, a4⟩, _⟩ := blk5 ((hb.block w.heap.size (by simp)).trans (heap1 w _))
    have HB := Lib.hid (below_new1 hb)
    clear hb
    cases hk : keyOkB ⟨u, s, h, a⟩ with
    | false =>
      rw [hk] at HR
      go_wp2
      go_ret
      exact ⟨by rw [HR.out]; rfl, HB.out⟩
    | true =>
      rw [hk] at HR
      go_wp2_with fail
      refine (l1In_b _ _ _ _).mono ?_
      rintro e w' ⟨rfl, rfl⟩
      obtain ⟨b, hb⟩ : ∃ b, inB no 0 1000 = b := ⟨_, rfl⟩
      rw [hb]
      have HRb := Lib.hid hb
      clear hb
      go_wp2
      go_ret
      exact ⟨by rw [HR.out, HRb.out]; rfl, HB.out⟩

theorem l5Goes_any (r : RowV) (w : World) : Calls Tryz.prog 62 #[r.val] w fun e w' => e = .returned (.bool (goesB r)) ∧ Below w.heap.size w w' := by
  obtain ⟨⟨u, s, h, a⟩, no⟩ := r
  have HV : Hid (RowV.val ⟨⟨u, s, h, a⟩, no⟩ = .agg #[.int .i64 u, .int .i64 s, .int .i64 h, .int .i64 a, .int .i64 no]) := rfl
  rw [HV.out]
  have hq := eq_agg u s h a 0 0 0 0
  have HB0 : Hid (Below w.heap.size w (w.alloc (.cells #[.int .i64 u, .int .i64 s, .int .i64 h, .int .i64 a, .int .i64 no] 54))) := (Below.refl _ w).alloc (Nat.le_refl _) _
  cases hz : KeyV.same ⟨u, s, h, a⟩ ⟨0, 0, 0, 0⟩ with
  | true =>
    have HR : Hid (goesB ⟨⟨u, s, h, a⟩, no⟩ = false) := by show (!KeyV.same ⟨u, s, h, a⟩ ⟨0, 0, 0, 0⟩ && _) = _; rw [hz]; rfl
    rw [hz] at hq
    clear hz
    go_enter Tryz.func62, Tryz.ntmps62
    go_wp2
    go_ret
    exact ⟨by rw [HR.out]; rfl, HB0.out⟩
  | false =>
    have HR : Hid (goesB ⟨⟨u, s, h, a⟩, no⟩ = decide (no < 1000)) := by show (!KeyV.same ⟨u, s, h, a⟩ ⟨0, 0, 0, 0⟩ && _) = _; rw [hz]; rfl
    rw [hz] at hq
    clear hz
    go_enter Tryz.func62, Tryz.ntmps62
    go_wp2
    go_ret
    exact ⟨by rw [HR.out]; rfl, HB0.out⟩


set_option maxHeartbeats 4000000 in
theorem Take_spec (r : RowV) (b : BoxV) (w : World) : Calls Tryz.prog 37 #[r.val, b.val] w fun e w' => e = .returned (.tuple #[(takeR r b).val, .string (takeT r b), .bool (takeB r b)]) ∧ Below w.heap.size w w' := by
  obtain ⟨⟨u, s, h, a⟩, no⟩ := r
  obtain ⟨⟨xu, xs, xh, xa⟩, xn, xt, xp⟩ := b
  have HV : Hid (RowV.val ⟨⟨u, s, h, a⟩, no⟩ = .agg #[.int .i64 u, .int .i64 s, .int .i64 h, .int .i64 a, .int .i64 no]) := rfl
  have HV' : Hid (BoxV.val ⟨⟨xu, xs, xh, xa⟩, xn, xt, xp⟩ = .agg #[.int .i64 xu, .int .i64 xs, .int .i64 xh, .int .i64 xa, .int .i64 xn, .string xt, .bool xp]) := rfl
  rw [HV.out, HV'.out]
  go_enter Tryz.func37, Tryz.ntmps37
  go_wp2_with fail
  refine (RowOk_spec ⟨⟨u, s, h, a⟩, no⟩ _).mono ?_
  rintro e w1 ⟨rfl, hb⟩
  have K1 := Lib.hid (blk_on hb (heap3a w _ _ _))
  have X1 := Lib.hid (blk_on hb (heap3b w _ _ _))
  have R1 := Lib.hid (blk_on hb (heap3c w _ _ _))
  have L1 := Lib.hid (below_new3 hb)
  clear hb
  cases hr : rowOkB ⟨⟨u, s, h, a⟩, no⟩ with
  | false =>
    have HR : Hid (takeR ⟨⟨u, s, h, a⟩, no⟩ ⟨⟨xu, xs, xh, xa⟩, xn, xt, xp⟩ = .zero ∧ takeT ⟨⟨u, s, h, a⟩, no⟩ ⟨⟨xu, xs, xh, xa⟩, xn, xt, xp⟩ = ⟨#[]⟩ ∧ takeB ⟨⟨u, s, h, a⟩, no⟩ ⟨⟨xu, xs, xh, xa⟩, xn, xt, xp⟩ = false) := by
      have e : takeB ⟨⟨u, s, h, a⟩, no⟩ ⟨⟨xu, xs, xh, xa⟩, xn, xt, xp⟩ = false := by simp [takeB, hr]
      exact ⟨by simp [takeR, hr], by simp [takeT, e], e⟩
    clear hr
    obtain ⟨⟨a0, a1, a2, a3, a4⟩, q0, q1, q2, q3, q4⟩ := blk5 R1.out
    go_wp2
    refine row_ret3 (r := w.heap.size + 1 + 1) (cs := List.toArray RowV.zero.cells) rfl rfl rfl rfl (setAll_whole (w := w1) (vs := RowV.zero.cells) R1.out rfl) Tryz.underlying54 rfl (by kernel_rfl) rfl ⟨?_, setAll_below (w := w1) (by omega) RowV.zero.cells 0 L1.out⟩
    rw [HR.out.1, HR.out.2.1, HR.out.2.2]
    rfl
  | true =>
    obtain ⟨⟨d0, d1, d2, d3, d4⟩, _⟩ := blk5 K1.out
    obtain ⟨⟨c0, c1, c2, c3, c4, c5, c6⟩, _⟩ := blk7 X1.out
    go_wp2_with fail
    clear d0 d1 d2 d3 d4 c0 c1 c2 c3 c4 c5 c6
    refine (Opened_spec ⟨⟨xu, xs, xh, xa⟩, xn, xt, xp⟩ ⟨u, s, h, a⟩ no _).mono ?_
    rintro e w2 ⟨rfl, b2⟩
    have K2 := Lib.hid (blk_on b2 K1.out)
    have R2 := Lib.hid (blk_on b2 R1.out)
    have L2 := Lib.hid (L1.out.trans (b2.mono L1.out.size))
    clear b2 K1 R1 L1 X1
    cases ho : openB ⟨⟨xu, xs, xh, xa⟩, xn, xt, xp⟩ ⟨u, s, h, a⟩ no with
    | false =>
      have HR : Hid (takeR ⟨⟨u, s, h, a⟩, no⟩ ⟨⟨xu, xs, xh, xa⟩, xn, xt, xp⟩ = ⟨⟨u, s, h, a⟩, no⟩ ∧ takeT ⟨⟨u, s, h, a⟩, no⟩ ⟨⟨xu, xs, xh, xa⟩, xn, xt, xp⟩ = ⟨#[]⟩ ∧ takeB ⟨⟨u, s, h, a⟩, no⟩ ⟨⟨xu, xs, xh, xa⟩, xn, xt, xp⟩ = false) := by
        have e : takeB ⟨⟨u, s, h, a⟩, no⟩ ⟨⟨xu, xs, xh, xa⟩, xn, xt, xp⟩ = false := by simp [takeB, ho]
        exact ⟨by simp [takeR, hr, e], by simp [takeT, e], e⟩
      rw [open_false ho]
      obtain ⟨⟨a0, a1, a2, a3, a4⟩, q0, q1, q2, q3, q4⟩ := blk5 R2.out
      obtain ⟨⟨d0, d1, d2, d3, d4⟩, _⟩ := blk5 K2.out
      go_wp2
      refine row_ret3 (r := w.heap.size + 1 + 1) (cs := List.toArray (RowV.cells ⟨⟨u, s, h, a⟩, no⟩)) rfl rfl rfl rfl (setAll_whole (w := w2) (vs := (RowV.cells ⟨⟨u, s, h, a⟩, no⟩)) R2.out rfl) Tryz.underlying54 rfl (by kernel_rfl) rfl ⟨?_, setAll_below (w := w2) (by omega) (RowV.cells ⟨⟨u, s, h, a⟩, no⟩) 0 L2.out⟩
      rw [HR.out.1, HR.out.2.1, HR.out.2.2]
      rfl
    | true =>
      rw [(open_true ho).2.2.2]
      obtain ⟨⟨d0, d1, d2, d3, d4⟩, _⟩ := blk5 K2.out
      go_wp2_with fail
      clear d0 d1 d2 d3 d4
      refine (l5Goes_any ⟨⟨u, s, h, a⟩, no⟩ _).mono ?_
      rintro e w4 ⟨rfl, b4⟩
      have K4 := Lib.hid (blk_on b4 K2.out)
      have R4 := Lib.hid (blk_on b4 R2.out)
      have L4 := Lib.hid (L2.out.trans (b4.mono L2.out.size))
      clear b4 K2 R2 L2
      cases hg : goesB ⟨⟨u, s, h, a⟩, no⟩ with
      | false =>
        have HR : Hid (takeR ⟨⟨u, s, h, a⟩, no⟩ ⟨⟨xu, xs, xh, xa⟩, xn, xt, xp⟩ = ⟨⟨u, s, h, a⟩, no⟩ ∧ takeT ⟨⟨u, s, h, a⟩, no⟩ ⟨⟨xu, xs, xh, xa⟩, xn, xt, xp⟩ = ⟨#[]⟩ ∧ takeB ⟨⟨u, s, h, a⟩, no⟩ ⟨⟨xu, xs, xh, xa⟩, xn, xt, xp⟩ = false) := by
          have e : takeB ⟨⟨u, s, h, a⟩, no⟩ ⟨⟨xu, xs, xh, xa⟩, xn, xt, xp⟩ = false := by simp [takeB, hg]
          exact ⟨by simp [takeR, hr, e], by simp [takeT, e], e⟩
        obtain ⟨⟨a0, a1, a2, a3, a4⟩, q0, q1, q2, q3, q4⟩ := blk5 R4.out
        obtain ⟨⟨d0, d1, d2, d3, d4⟩, _⟩ := blk5 K4.out
        go_wp2
        refine row_ret3 (r := w.heap.size + 1 + 1) (cs := List.toArray (RowV.cells ⟨⟨u, s, h, a⟩, no⟩)) rfl rfl rfl rfl (setAll_whole (w := w4) (vs := (RowV.cells ⟨⟨u, s, h, a⟩, no⟩)) R4.out rfl) Tryz.underlying54 rfl (by kernel_rfl) rfl ⟨?_, setAll_below (w := w4) (by omega) (RowV.cells ⟨⟨u, s, h, a⟩, no⟩) 0 L4.out⟩
        rw [HR.out.1, HR.out.2.1, HR.out.2.2]
        rfl
      | true =>
        obtain ⟨hn0, hn1⟩ := goes_range hg hr
        dsimp only at hn0 hn1
        have HR : Hid (takeR ⟨⟨u, s, h, a⟩, no⟩ ⟨⟨xu, xs, xh, xa⟩, xn, xt, xp⟩ = ⟨⟨u, s, h, a⟩, no + 1⟩ ∧ takeT ⟨⟨u, s, h, a⟩, no⟩ ⟨⟨xu, xs, xh, xa⟩, xn, xt, xp⟩ = xt ∧ takeB ⟨⟨u, s, h, a⟩, no⟩ ⟨⟨xu, xs, xh, xa⟩, xn, xt, xp⟩ = true) := by
          have e : takeB ⟨⟨u, s, h, a⟩, no⟩ ⟨⟨xu, xs, xh, xa⟩, xn, xt, xp⟩ = true := by simp [takeB, hr, ho, hg]
          exact ⟨by simp [takeR, hr, e, RowV.on], by simp [takeT, e], e⟩
        have R5 := Lib.hid (blk_away (p := ⟨w.heap.size, 4, none⟩) (u := .int .i64 (no + 1)) R4.out (by show w.heap.size + 1 + 1 ≠ w.heap.size; omega))
        have L5 := Lib.hid (L4.out.setCell (p := ⟨w.heap.size, 4, none⟩) (Nat.le_refl _) (.int .i64 (no + 1)))
        obtain ⟨⟨a0, a1, a2, a3, a4⟩, q0, q1, q2, q3, q4⟩ := blk5 R4.out
        obtain ⟨⟨d0, d1, d2, d3, d4⟩, f0, f1, f2, f3, f4⟩ := blk5 K4.out
        have n5 : ¬ w.heap.size = w.heap.size + 1 + 1 := by omega
        have n6 : ¬ w.heap.size + 1 + 1 = w.heap.size := by omega
        go_wp2
        refine row_ret3 (r := w.heap.size + 1 + 1) (cs := List.toArray (RowV.cells ⟨⟨u, s, h, a⟩, no + 1⟩)) rfl rfl rfl rfl (setAll_whole (w := w4.setCell ⟨w.heap.size, 4, none⟩ (.int .i64 (no + 1))) (vs := (RowV.cells ⟨⟨u, s, h, a⟩, no + 1⟩)) R5.out rfl) Tryz.underlying54 rfl (by kernel_rfl) rfl ⟨?_, setAll_below (w := w4.setCell ⟨w.heap.size, 4, none⟩ (.int .i64 (no + 1))) (by omega) (RowV.cells ⟨⟨u, s, h, a⟩, no + 1⟩) 0 L5.out⟩
        rw [HR.out.1, HR.out.2.1, HR.out.2.2]
        rfl

set_option maxHeartbeats 1000000 in
theorem toRow_any (r : RowV) (w : World) : Calls Tryz.prog 63 #[r.val] w fun e w' => e = .returned r.val ∧ Below w.heap.size w w' := by
  obtain ⟨⟨u, s, h, a⟩, no⟩ := r
  have HV : Hid (RowV.val ⟨⟨u, s, h, a⟩, no⟩ = .agg #[.int .i64 u, .int .i64 s, .int .i64 h, .int .i64 a, .int .i64 no]) := rfl
  rw [HV.out]
  go_enter Tryz.func63, Tryz.ntmps63
  go_wp2_with fail
  refine (toKey_any ⟨u, s, h, a⟩ _).mono ?_
  rintro e w1 ⟨rfl, hb⟩
  have hx := blk_on hb (heap3a w _ _ _)
  have hr := blk_on hb (heap3b w _ _ _)
  have ho := blk_on hb (heap3c w _ _ _)
  obtain ⟨⟨a0, a1, a2, a3, a4⟩, _⟩ := blk5 hx
  obtain ⟨⟨b0, b1, b2, b3, b4⟩, p0, p1, p2, p3, p4⟩ := blk5 hr
  obtain ⟨⟨c0, c1, c2, c3, c4⟩, q0, q1, q2, q3, q4⟩ := blk5 ho
  have HRB := Lib.hid hr
  have HB := Lib.hid (below_new3 hb)
  clear hb hx hr ho
  unfold KeyV.val
  go_wp2
  exact row_ret (cs := (RowV.cells ⟨⟨u, s, h, a⟩, no⟩).toArray) rfl rfl (setAll_whole (vs := RowV.cells ⟨⟨u, s, h, a⟩, no⟩) (setAll_away (g := w.heap.size + 1 + 1) (by omega) (RowV.cells ⟨⟨u, s, h, a⟩, no⟩) 0 HRB.out) rfl) Tryz.underlying54 rfl (by kernel_rfl) rfl
    ⟨rfl, setAll_below (by omega) (RowV.cells ⟨⟨u, s, h, a⟩, no⟩) 0 (setAll_below (g := w.heap.size + 1 + 1) (by omega) (RowV.cells ⟨⟨u, s, h, a⟩, no⟩) 0 HB.out)⟩

set_option maxHeartbeats 1000000 in
theorem eqRow_same (r : RowV) (w : World) : Calls Tryz.prog 75 #[r.val, r.val] w fun e w' => e = .returned (.bool true) ∧ Below w.heap.size w w' := by
  obtain ⟨⟨u, s, h, a⟩, no⟩ := r
  have HV : Hid (RowV.val ⟨⟨u, s, h, a⟩, no⟩ = .agg #[.int .i64 u, .int .i64 s, .int .i64 h, .int .i64 a, .int .i64 no]) := rfl
  rw [HV.out]
  go_enter Tryz.func75, Tryz.ntmps75
  go_wp2_with fail
  refine (eqKey_same ⟨u, s, h, a⟩ _).mono ?_
  rintro e w1 ⟨rfl, hb⟩
  obtain ⟨⟨a0, a1, a2, a3, a4⟩, _⟩ := blk5 (blk_on hb (heap2a w _ _))
  obtain ⟨⟨b0, b1, b2, b3, b4⟩, _⟩ := blk5 (blk_on hb (heap2b w _ _))
  have HB := Lib.hid (below_new2 hb)
  clear hb
  go_wp2
  go_ret
  exact ⟨rfl, HB.out⟩

end Go.Proofs.YtioogmeghmeelaaGreatDoor.Tx

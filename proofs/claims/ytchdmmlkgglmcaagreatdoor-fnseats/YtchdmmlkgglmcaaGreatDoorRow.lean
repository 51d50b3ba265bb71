/-
  What RowOk, Put and Take of the model answer, and what toRow and eqRow of the laws do. No conditions.
-/
import Derived.Deep.RegionHeld3
import Derived.Deep.DeepCutAuto
import Derived.Test.YtchdmmlkgglmcaaGreatDoorBox
import Derived.Test.YtchdmmlkgglmcaaGreatDoorRow0
namespace Go.Proofs.YtchdmmlkgglmcaaGreatDoor.Tx
open Go.RowKit

theorem blk5 {w : World} {g : Nat} {v0 v1 v2 v3 v4 : Value} {t : TypeId} (h : w.heap[g]? = some (.cells #[v0, v1, v2, v3, v4] t (0, 0))) :
    (w.cell? ⟨g, 0, none⟩ = some v0 ∧ w.cell? ⟨g, 1, none⟩ = some v1 ∧ w.cell? ⟨g, 2, none⟩ = some v2 ∧ w.cell? ⟨g, 3, none⟩ = some v3 ∧ w.cell? ⟨g, 4, none⟩ = some v4) ∧
    (w.frozen? ⟨g, 0, none⟩ = false ∧ w.frozen? ⟨g, 1, none⟩ = false ∧ w.frozen? ⟨g, 2, none⟩ = false ∧ w.frozen? ⟨g, 3, none⟩ = false ∧ w.frozen? ⟨g, 4, none⟩ = false) :=
  ⟨⟨blk_cell h 0, blk_cell h 1, blk_cell h 2, blk_cell h 3, blk_cell h 4⟩, blk_frozen h 0, blk_frozen h 1, blk_frozen h 2, blk_frozen h 3, blk_frozen h 4⟩

set_option maxHeartbeats 1000000 in
theorem RowOk_spec (r : RowV) (w : World) : Calls Tryz.prog 42 #[r.val] w fun e w' => e = .returned (.bool (rowOkB r)) ∧ Below w.heap.size w w' := by
  obtain ⟨⟨u, s, h, a⟩, no⟩ := r
  have HV : Hid (RowV.val ⟨⟨u, s, h, a⟩, no⟩ = .agg #[.int .i64 u, .int .i64 s, .int .i64 h, .int .i64 a, .int .i64 no]) := rfl
  rw [HV.out]
  have hq := eq_agg u s h a 0 0 0 0
  have HB0 : Hid (Below w.heap.size w (w.alloc (.cells #[.int .i64 u, .int .i64 s, .int .i64 h, .int .i64 a, .int .i64 no] 27))) := (Below.refl _ w).alloc (Nat.le_refl _) _
  cases hz : KeyV.same ⟨u, s, h, a⟩ ⟨0, 0, 0, 0⟩ with
  | true =>
    have HR : Hid (rowOkB ⟨⟨u, s, h, a⟩, no⟩ = inB no 0 1000) := by show ((KeyV.same ⟨u, s, h, a⟩ ⟨0, 0, 0, 0⟩ || _) && _) = _; rw [hz]; rfl
    rw [hz] at hq
    clear hz
    go_enter Tryz.func42, Tryz.ntmps42
    go_wp2_with fail
    refine (l1In_b _ _ _ _).mono ?_
    rintro e w' ⟨rfl, rfl⟩
    obtain ⟨b, hb⟩ : ∃ b, inB no 0 1000 = b := ⟨_, rfl⟩
    rw [hb]
    have HRb := Lib.hid hb
    clear hb
    go_wp2
    go_ret
    exact ⟨by rw [HR.out, HRb.out]; rfl, HB0.out⟩
  | false =>
    rw [hz] at hq
    have HR : Hid (rowOkB ⟨⟨u, s, h, a⟩, no⟩ = (keyOkB ⟨u, s, h, a⟩ && inB no 0 1000)) := by show ((KeyV.same ⟨u, s, h, a⟩ ⟨0, 0, 0, 0⟩ || _) && _) = _; rw [hz]; rfl
    clear hz
    go_enter Tryz.func42, Tryz.ntmps42
    go_wp2_with fail
    refine (KeyOk_spec ⟨u, s, h, a⟩ _).mono ?_
    rintro e w1 ⟨rfl, hb⟩
    obtain ⟨⟨a0, a1, a2, a3, a4⟩, _⟩ := blk5 ((hb.block w.heap.size (by simp)).trans (heap1 w _))
    have HB := Lib.hid (below_new1 hb)
    clear hb
    cases hk : keyOkB ⟨u, s, h, a⟩ with
    | false =>
      rw [hk] at HR
      go_wp2
      go_ret
      exact ⟨by rw [HR.out]; rfl, HB.out⟩
    | true =>
      rw [hk] at HR
      go_wp2_with fail
      refine (l1In_b _ _ _ _).mono ?_
      rintro e w' ⟨rfl, rfl⟩
      obtain ⟨b, hb⟩ : ∃ b, inB no 0 1000 = b := ⟨_, rfl⟩
      rw [hb]
      have HRb := Lib.hid hb
      clear hb
      go_wp2
      go_ret
      exact ⟨by rw [HR.out, HRb.out]; rfl, HB.out⟩

theorem l5Goes_any (r : RowV) (w : World) : Calls Tryz.prog 59 #[r.val] w fun e w' => e = .returned (.bool (goesB r)) ∧ Below w.heap.size w w' := by
  obtain ⟨⟨u, s, h, a⟩, no⟩ := r
  have HV : Hid (RowV.val ⟨⟨u, s, h, a⟩, no⟩ = .agg #[.int .i64 u, .int .i64 s, .int .i64 h, .int .i64 a, .int .i64 no]) := rfl
  rw [HV.out]
  have hq := eq_agg u s h a 0 0 0 0
  have HB0 : Hid (Below w.heap.size w (w.alloc (.cells #[.int .i64 u, .int .i64 s, .int .i64 h, .int .i64 a, .int .i64 no] 27))) := (Below.refl _ w).alloc (Nat.le_refl _) _
  cases hz : KeyV.same ⟨u, s, h, a⟩ ⟨0, 0, 0, 0⟩ with
  | true =>
    have HR : Hid (goesB ⟨⟨u, s, h, a⟩, no⟩ = false) := by show (!KeyV.same ⟨u, s, h, a⟩ ⟨0, 0, 0, 0⟩ && _) = _; rw [hz]; rfl
    rw [hz] at hq
    clear hz
    go_enter Tryz.func59, Tryz.ntmps59
    go_wp2
    go_ret
    exact ⟨by rw [HR.out]; rfl, HB0.out⟩
  | false =>
    have HR : Hid (goesB ⟨⟨u, s, h, a⟩, no⟩ = decide (no < 1000)) := by show (!KeyV.same ⟨u, s, h, a⟩ ⟨0, 0, 0, 0⟩ && _) = _; rw [hz]; rfl
    rw [hz] at hq
    clear hz
    go_enter Tryz.func59, Tryz.ntmps59
    go_wp2
    go_ret
    exact ⟨by rw [HR.out]; rfl, HB0.out⟩

set_option maxHeartbeats 4000000 in
theorem Put_spec (r : RowV) (t : ByteArray) (w : World) : Calls Tryz.prog 76 #[r.val, .string t] w fun e w' => e = .returned (.tuple #[(putR r t).val, (putX r t).val, .bool (putB r t)]) ∧ Below w.heap.size w w' := by
  obtain ⟨⟨u, s, h, a⟩, no⟩ := r
  have HV : Hid (RowV.val ⟨⟨u, s, h, a⟩, no⟩ = .agg #[.int .i64 u, .int .i64 s, .int .i64 h, .int .i64 a, .int .i64 no]) := rfl
  rw [HV.out]
  go_enter Tryz.func76, Tryz.ntmps76
  go_wp2_with fail
  refine (RowOk_spec ⟨⟨u, s, h, a⟩, no⟩ _).mono ?_
  rintro e w1 ⟨rfl, hb⟩
  have K1 := Lib.hid (blk_on hb (heap3a w _ _ _))
  have R1 := Lib.hid (blk_on hb (heap3b w _ _ _))
  have Q1 := Lib.hid (blk_on hb (heap3c w _ _ _))
  have L1 := Lib.hid (below_new3 hb)
  clear hb
  cases hr : rowOkB ⟨⟨u, s, h, a⟩, no⟩ with
  | false =>
    have HR : Hid (putR ⟨⟨u, s, h, a⟩, no⟩ t = .zero ∧ putX ⟨⟨u, s, h, a⟩, no⟩ t = .zero ∧ putB ⟨⟨u, s, h, a⟩, no⟩ t = false) := by
      have e : putB ⟨⟨u, s, h, a⟩, no⟩ t = false := by simp [putB, hr]
      exact ⟨by simp [putR, hr], by simp [putX, e], e⟩
    clear hr
    obtain ⟨⟨a0, a1, a2, a3, a4⟩, q0, q1, q2, q3, q4⟩ := blk5 R1.out
    obtain ⟨⟨b0, b1, b2, b3, b4, b5, b6⟩, p0, p1, p2, p3, p4, p5, p6⟩ := blk7 Q1.out
    have RE : Hid ((setAll (setAll w1 (w.heap.size + 1) 0 RowV.zero.cells) (w.heap.size + 1 + 1) 0 BoxV.zero.cells).heap[w.heap.size + 1]? = some (.cells (List.toArray RowV.zero.cells) 27 (0, 0))) := setAll_away (w := setAll w1 (w.heap.size + 1) 0 RowV.zero.cells) (b := w.heap.size + 1) (g := w.heap.size + 1 + 1) (by omega) BoxV.zero.cells 0 (setAll_whole (w := w1) (vs := RowV.zero.cells) R1.out rfl)
    have QE : Hid ((setAll (setAll w1 (w.heap.size + 1) 0 RowV.zero.cells) (w.heap.size + 1 + 1) 0 BoxV.zero.cells).heap[w.heap.size + 1 + 1]? = some (.cells (List.toArray BoxV.zero.cells) 32 (0, 0))) := setAll_whole (w := setAll w1 (w.heap.size + 1) 0 RowV.zero.cells) (vs := BoxV.zero.cells) (setAll_away (w := w1) (b := w.heap.size + 1 + 1) (g := w.heap.size + 1) (by omega) RowV.zero.cells 0 Q1.out) rfl
    have LE : Hid (Below w.heap.size w (setAll (setAll w1 (w.heap.size + 1) 0 RowV.zero.cells) (w.heap.size + 1 + 1) 0 BoxV.zero.cells)) := setAll_below (by omega) BoxV.zero.cells 0 (setAll_below (by omega) RowV.zero.cells 0 L1.out)
    go_wp2
    show bodyPost _ _ _ _ _ (setAll (setAll w1 (w.heap.size + 1) 0 RowV.zero.cells) (w.heap.size + 1 + 1) 0 BoxV.zero.cells)
    generalize setAll (setAll w1 (w.heap.size + 1) 0 RowV.zero.cells) (w.heap.size + 1 + 1) 0 BoxV.zero.cells = WE at RE QE LE ⊢
    refine row_ret21 (w := WE) (r := w.heap.size + 1) (r' := w.heap.size + 1 + 1) (cs := List.toArray RowV.zero.cells) (cs' := List.toArray BoxV.zero.cells) rfl rfl rfl rfl
      RE.out Tryz.underlying27 rfl (by kernel_rfl) QE.out Tryz.underlying32 rfl (by kernel_rfl) rfl ⟨?_, LE.out⟩
    rw [HR.out.1, HR.out.2.1, HR.out.2.2]
    rfl
  | true =>
    obtain ⟨⟨d0, d1, d2, d3, d4⟩, _⟩ := blk5 K1.out
    go_wp2_with fail
    clear d0 d1 d2 d3 d4
    refine (Locked_spec ⟨u, s, h, a⟩ no t _).mono ?_
    rintro e w2 ⟨rfl, b2⟩
    have K2 := Lib.hid (blk_on b2 K1.out)
    have R2 := Lib.hid (blk_on b2 R1.out)
    have Q2 := Lib.hid (blk_on b2 Q1.out)
    have L2 := Lib.hid (L1.out.trans (b2.mono L1.out.size))
    have hsz : w.heap.size + 1 + 1 < w2.heap.size := blk_in Q2.out
    clear b2 K1 R1 Q1 L1
    obtain ⟨⟨⟨xu, xs, xh, xa⟩, xn, xt, xp⟩, hx⟩ : ∃ x, lockV ⟨⟨u, s, h, a⟩, no, t, false⟩ = x := ⟨_, rfl⟩
    have HXV : Hid (BoxV.val ⟨⟨xu, xs, xh, xa⟩, xn, xt, xp⟩ = .agg #[.int .i64 xu, .int .i64 xs, .int .i64 xh, .int .i64 xa, .int .i64 xn, .string xt, .bool xp]) := rfl
    have HX := Lib.hid hx
    rw [hx, HXV.out]
    clear hx
    obtain ⟨W3, hW3⟩ : ∃ W, w2.alloc (.cells #[.int .i64 xu, .int .i64 xs, .int .i64 xh, .int .i64 xa, .int .i64 xn, .string xt, .bool xp] 32) = W := ⟨_, rfl⟩
    have K3 := Lib.hid (alloc_blk (o := .cells #[.int .i64 xu, .int .i64 xs, .int .i64 xh, .int .i64 xa, .int .i64 xn, .string xt, .bool xp] 32) K2.out)
    have R3 := Lib.hid (alloc_blk (o := .cells #[.int .i64 xu, .int .i64 xs, .int .i64 xh, .int .i64 xa, .int .i64 xn, .string xt, .bool xp] 32) R2.out)
    have Q3 := Lib.hid (alloc_blk (o := .cells #[.int .i64 xu, .int .i64 xs, .int .i64 xh, .int .i64 xa, .int .i64 xn, .string xt, .bool xp] 32) Q2.out)
    have X3 := Lib.hid (heap1 w2 (.cells #[.int .i64 xu, .int .i64 xs, .int .i64 xh, .int .i64 xa, .int .i64 xn, .string xt, .bool xp] 32))
    have L3 := Lib.hid (L2.out.alloc L2.out.size (.cells #[.int .i64 xu, .int .i64 xs, .int .i64 xh, .int .i64 xa, .int .i64 xn, .string xt, .bool xp] 32))
    rw [hW3] at K3 R3 Q3 X3 L3
    clear K2 R2 Q2 L2
    cases hok : boxOkB ⟨⟨u, s, h, a⟩, no, t, false⟩ with
    | false =>
      have HR : Hid (putR ⟨⟨u, s, h, a⟩, no⟩ t = ⟨⟨u, s, h, a⟩, no⟩ ∧ putX ⟨⟨u, s, h, a⟩, no⟩ t = .zero ∧ putB ⟨⟨u, s, h, a⟩, no⟩ t = false) := by
        have e : putB ⟨⟨u, s, h, a⟩, no⟩ t = false := by simp [putB, hok]
        exact ⟨by simp [putR, hr, e], by simp [putX, e], e⟩
      obtain ⟨⟨a0, a1, a2, a3, a4⟩, q0, q1, q2, q3, q4⟩ := blk5 R3.out
      obtain ⟨⟨b0, b1, b2, b3, b4, b5, b6⟩, p0, p1, p2, p3, p4, p5, p6⟩ := blk7 Q3.out
      obtain ⟨⟨d0, d1, d2, d3, d4⟩, _⟩ := blk5 K3.out
      have RE : Hid ((setAll (setAll W3 (w.heap.size + 1) 0 (RowV.cells ⟨⟨u, s, h, a⟩, no⟩)) (w.heap.size + 1 + 1) 0 BoxV.zero.cells).heap[w.heap.size + 1]? = some (.cells (List.toArray (RowV.cells ⟨⟨u, s, h, a⟩, no⟩)) 27 (0, 0))) := setAll_away (w := setAll W3 (w.heap.size + 1) 0 (RowV.cells ⟨⟨u, s, h, a⟩, no⟩)) (b := w.heap.size + 1) (g := w.heap.size + 1 + 1) (by omega) BoxV.zero.cells 0 (setAll_whole (w := W3) (vs := (RowV.cells ⟨⟨u, s, h, a⟩, no⟩)) R3.out rfl)
      have QE : Hid ((setAll (setAll W3 (w.heap.size + 1) 0 (RowV.cells ⟨⟨u, s, h, a⟩, no⟩)) (w.heap.size + 1 + 1) 0 BoxV.zero.cells).heap[w.heap.size + 1 + 1]? = some (.cells (List.toArray BoxV.zero.cells) 32 (0, 0))) := setAll_whole (w := setAll W3 (w.heap.size + 1) 0 (RowV.cells ⟨⟨u, s, h, a⟩, no⟩)) (vs := BoxV.zero.cells) (setAll_away (w := W3) (b := w.heap.size + 1 + 1) (g := w.heap.size + 1) (by omega) (RowV.cells ⟨⟨u, s, h, a⟩, no⟩) 0 Q3.out) rfl
      have LE : Hid (Below w.heap.size w (setAll (setAll W3 (w.heap.size + 1) 0 (RowV.cells ⟨⟨u, s, h, a⟩, no⟩)) (w.heap.size + 1 + 1) 0 BoxV.zero.cells)) := setAll_below (by omega) BoxV.zero.cells 0 (setAll_below (by omega) (RowV.cells ⟨⟨u, s, h, a⟩, no⟩) 0 L3.out)
      go_wp2
      clear hW3
      show bodyPost _ _ _ _ _ (setAll (setAll W3 (w.heap.size + 1) 0 (RowV.cells ⟨⟨u, s, h, a⟩, no⟩)) (w.heap.size + 1 + 1) 0 BoxV.zero.cells)
      generalize setAll (setAll W3 (w.heap.size + 1) 0 (RowV.cells ⟨⟨u, s, h, a⟩, no⟩)) (w.heap.size + 1 + 1) 0 BoxV.zero.cells = WE at RE QE LE ⊢
      refine row_ret21 (w := WE) (r := w.heap.size + 1) (r' := w.heap.size + 1 + 1) (cs := List.toArray (RowV.cells ⟨⟨u, s, h, a⟩, no⟩)) (cs' := List.toArray BoxV.zero.cells) rfl rfl rfl rfl
        RE.out Tryz.underlying27 rfl (by kernel_rfl) QE.out Tryz.underlying32 rfl (by kernel_rfl) rfl ⟨?_, LE.out⟩
      rw [HR.out.1, HR.out.2.1, HR.out.2.2]
      rfl
    | true =>
      obtain ⟨⟨d0, d1, d2, d3, d4⟩, _⟩ := blk5 K3.out
      go_wp2_with fail
      clear hW3 d0 d1 d2 d3 d4
      refine (l5Goes_any ⟨⟨u, s, h, a⟩, no⟩ _).mono ?_
      rintro e w4 ⟨rfl, b4⟩
      have K4 := Lib.hid (blk_on b4 K3.out)
      have R4 := Lib.hid (blk_on b4 R3.out)
      have Q4 := Lib.hid (blk_on b4 Q3.out)
      have X4 := Lib.hid (blk_on b4 X3.out)
      have L4 := Lib.hid (L3.out.trans (b4.mono L3.out.size))
      clear b4 K3 R3 Q3 X3 L3
      cases hg : goesB ⟨⟨u, s, h, a⟩, no⟩ with
      | false =>
        have HR : Hid (putR ⟨⟨u, s, h, a⟩, no⟩ t = ⟨⟨u, s, h, a⟩, no⟩ ∧ putX ⟨⟨u, s, h, a⟩, no⟩ t = .zero ∧ putB ⟨⟨u, s, h, a⟩, no⟩ t = false) := by
          have e : putB ⟨⟨u, s, h, a⟩, no⟩ t = false := by simp [putB, hg]
          exact ⟨by simp [putR, hr, e], by simp [putX, e], e⟩
        obtain ⟨⟨a0, a1, a2, a3, a4⟩, q0, q1, q2, q3, q4⟩ := blk5 R4.out
        obtain ⟨⟨b0, b1, b2, b3, b4, b5, b6⟩, p0, p1, p2, p3, p4, p5, p6⟩ := blk7 Q4.out
        obtain ⟨⟨d0, d1, d2, d3, d4⟩, _⟩ := blk5 K4.out
        have RE : Hid ((setAll (setAll w4 (w.heap.size + 1) 0 (RowV.cells ⟨⟨u, s, h, a⟩, no⟩)) (w.heap.size + 1 + 1) 0 BoxV.zero.cells).heap[w.heap.size + 1]? = some (.cells (List.toArray (RowV.cells ⟨⟨u, s, h, a⟩, no⟩)) 27 (0, 0))) := setAll_away (w := setAll w4 (w.heap.size + 1) 0 (RowV.cells ⟨⟨u, s, h, a⟩, no⟩)) (b := w.heap.size + 1) (g := w.heap.size + 1 + 1) (by omega) BoxV.zero.cells 0 (setAll_whole (w := w4) (vs := (RowV.cells ⟨⟨u, s, h, a⟩, no⟩)) R4.out rfl)
        have QE : Hid ((setAll (setAll w4 (w.heap.size + 1) 0 (RowV.cells ⟨⟨u, s, h, a⟩, no⟩)) (w.heap.size + 1 + 1) 0 BoxV.zero.cells).heap[w.heap.size + 1 + 1]? = some (.cells (List.toArray BoxV.zero.cells) 32 (0, 0))) := setAll_whole (w := setAll w4 (w.heap.size + 1) 0 (RowV.cells ⟨⟨u, s, h, a⟩, no⟩)) (vs := BoxV.zero.cells) (setAll_away (w := w4) (b := w.heap.size + 1 + 1) (g := w.heap.size + 1) (by omega) (RowV.cells ⟨⟨u, s, h, a⟩, no⟩) 0 Q4.out) rfl
        have LE : Hid (Below w.heap.size w (setAll (setAll w4 (w.heap.size + 1) 0 (RowV.cells ⟨⟨u, s, h, a⟩, no⟩)) (w.heap.size + 1 + 1) 0 BoxV.zero.cells)) := setAll_below (by omega) BoxV.zero.cells 0 (setAll_below (by omega) (RowV.cells ⟨⟨u, s, h, a⟩, no⟩) 0 L4.out)
        go_wp2
        show bodyPost _ _ _ _ _ (setAll (setAll w4 (w.heap.size + 1) 0 (RowV.cells ⟨⟨u, s, h, a⟩, no⟩)) (w.heap.size + 1 + 1) 0 BoxV.zero.cells)
        generalize setAll (setAll w4 (w.heap.size + 1) 0 (RowV.cells ⟨⟨u, s, h, a⟩, no⟩)) (w.heap.size + 1 + 1) 0 BoxV.zero.cells = WE at RE QE LE ⊢
        refine row_ret21 (w := WE) (r := w.heap.size + 1) (r' := w.heap.size + 1 + 1) (cs := List.toArray (RowV.cells ⟨⟨u, s, h, a⟩, no⟩)) (cs' := List.toArray BoxV.zero.cells) rfl rfl rfl rfl
          RE.out Tryz.underlying27 rfl (by kernel_rfl) QE.out Tryz.underlying32 rfl (by kernel_rfl) rfl ⟨?_, LE.out⟩
        rw [HR.out.1, HR.out.2.1, HR.out.2.2]
        rfl
      | true =>
        obtain ⟨hn0, hn1⟩ := goes_range hg hr
        dsimp only at hn0 hn1
        have HR : Hid (putR ⟨⟨u, s, h, a⟩, no⟩ t = ⟨⟨u, s, h, a⟩, no + 1⟩ ∧ putX ⟨⟨u, s, h, a⟩, no⟩ t = ⟨⟨u, s, h, a⟩, no, t, false⟩ ∧ putB ⟨⟨u, s, h, a⟩, no⟩ t = true) := by
          have e : putB ⟨⟨u, s, h, a⟩, no⟩ t = true := by simp [putB, hr, hok, hg]
          exact ⟨by simp [putR, hr, e, RowV.on], by simp [putX, e], e⟩
        have hlk : lockV ⟨⟨u, s, h, a⟩, no, t, false⟩ = ⟨⟨u, s, h, a⟩, no, t, false⟩ := by simp [lockV, hok]
        have h1 := hlk.symm.trans HX.out
        clear hlk HX
        injection h1 with h2 z4 z5 z6
        injection h2 with z0 z1 z2 z3
        subst z0; subst z1; subst z2; subst z3; subst z4; subst z5; subst z6
        have K5 := Lib.hid (blk_put (i := 4) K4.out (.int .i64 (no + 1)))
        have R5 := Lib.hid (blk_away (p := ⟨w.heap.size, 4, none⟩) (u := .int .i64 (no + 1)) R4.out (by show w.heap.size + 1 ≠ w.heap.size; omega))
        have Q5 := Lib.hid (blk_away (p := ⟨w.heap.size, 4, none⟩) (u := .int .i64 (no + 1)) Q4.out (by show w.heap.size + 1 + 1 ≠ w.heap.size; omega))
        have X5 := Lib.hid (blk_away (p := ⟨w.heap.size, 4, none⟩) (u := .int .i64 (no + 1)) X4.out (by show w2.heap.size ≠ w.heap.size; omega))
        have L5 := Lib.hid (L4.out.setCell (p := ⟨w.heap.size, 4, none⟩) (Nat.le_refl _) (.int .i64 (no + 1)))
        obtain ⟨⟨d0, d1, d2, d3, d4⟩, f0, f1, f2, f3, f4⟩ := blk5 K4.out
        go_upto_region 7 with fail
        generalize w4.setCell ⟨w.heap.size, 4, none⟩ (.int .i64 (no + 1)) = W5 at K5 R5 Q5 X5 L5 ⊢
        have K5' : Hid (W5.heap[w.heap.size]? = some (.cells #[.int .i64 u, .int .i64 s, .int .i64 h, .int .i64 a, .int .i64 (no + 1)] 27 (0, 0))) := K5.out
        clear d0 d1 d2 d3 d4 f0 f1 f2 f3 f4 K4 R4 Q4 X4 L4 K5
        obtain ⟨⟨d0, d1, d2, d3, d4⟩, _⟩ := blk5 K5'.out
        obtain ⟨⟨c0, c1, c2, c3, c4, c5, c6⟩, _⟩ := blk7 X5.out
        obtain ⟨⟨a0, a1, a2, a3, a4⟩, q0, q1, q2, q3, q4⟩ := blk5 R5.out
        obtain ⟨⟨b0, b1, b2, b3, b4, b5, b6⟩, p0, p1, p2, p3, p4, p5, p6⟩ := blk7 Q5.out
        have n1 : ¬ w2.heap.size = w.heap.size + 1 := by omega
        have n2 : ¬ w2.heap.size = w.heap.size + 1 + 1 := by omega
        have n3 : ¬ w.heap.size + 1 = w2.heap.size := by omega
        have n4 : ¬ w.heap.size + 1 + 1 = w2.heap.size := by omega
        have n5 : ¬ w.heap.size = w.heap.size + 1 + 1 := by omega
        have n6 : ¬ w.heap.size + 1 + 1 = w.heap.size := by omega
        have RE : Hid ((setAll (setAll W5 (w.heap.size + 1) 0 (RowV.cells ⟨⟨u, s, h, a⟩, no + 1⟩)) (w.heap.size + 1 + 1) 0 (BoxV.cells ⟨⟨u, s, h, a⟩, no, t, false⟩)).heap[w.heap.size + 1]? = some (.cells (List.toArray (RowV.cells ⟨⟨u, s, h, a⟩, no + 1⟩)) 27 (0, 0))) := setAll_away (w := setAll W5 (w.heap.size + 1) 0 (RowV.cells ⟨⟨u, s, h, a⟩, no + 1⟩)) (b := w.heap.size + 1) (g := w.heap.size + 1 + 1) (by omega) (BoxV.cells ⟨⟨u, s, h, a⟩, no, t, false⟩) 0 (setAll_whole (w := W5) (vs := (RowV.cells ⟨⟨u, s, h, a⟩, no + 1⟩)) R5.out rfl)
        have QE : Hid ((setAll (setAll W5 (w.heap.size + 1) 0 (RowV.cells ⟨⟨u, s, h, a⟩, no + 1⟩)) (w.heap.size + 1 + 1) 0 (BoxV.cells ⟨⟨u, s, h, a⟩, no, t, false⟩)).heap[w.heap.size + 1 + 1]? = some (.cells (List.toArray (BoxV.cells ⟨⟨u, s, h, a⟩, no, t, false⟩)) 32 (0, 0))) := setAll_whole (w := setAll W5 (w.heap.size + 1) 0 (RowV.cells ⟨⟨u, s, h, a⟩, no + 1⟩)) (vs := (BoxV.cells ⟨⟨u, s, h, a⟩, no, t, false⟩)) (setAll_away (w := W5) (b := w.heap.size + 1 + 1) (g := w.heap.size + 1) (by omega) (RowV.cells ⟨⟨u, s, h, a⟩, no + 1⟩) 0 Q5.out) rfl
        have LE : Hid (Below w.heap.size w (setAll (setAll W5 (w.heap.size + 1) 0 (RowV.cells ⟨⟨u, s, h, a⟩, no + 1⟩)) (w.heap.size + 1 + 1) 0 (BoxV.cells ⟨⟨u, s, h, a⟩, no, t, false⟩))) := setAll_below (by omega) (BoxV.cells ⟨⟨u, s, h, a⟩, no, t, false⟩) 0 (setAll_below (by omega) (RowV.cells ⟨⟨u, s, h, a⟩, no + 1⟩) 0 L5.out)
        go_region_held3 (fun w' => (w'.cell? ⟨w.heap.size, 0, none⟩ = some (.int .i64 u) ∧ w'.cell? ⟨w.heap.size, 1, none⟩ = some (.int .i64 s) ∧ w'.cell? ⟨w.heap.size, 2, none⟩ = some (.int .i64 h) ∧ w'.cell? ⟨w.heap.size, 3, none⟩ = some (.int .i64 a) ∧ w'.cell? ⟨w.heap.size, 4, none⟩ = some (.int .i64 (no + 1))) ∧ (w'.cell? ⟨w2.heap.size, 0, none⟩ = some (.int .i64 u) ∧ w'.cell? ⟨w2.heap.size, 1, none⟩ = some (.int .i64 s) ∧ w'.cell? ⟨w2.heap.size, 2, none⟩ = some (.int .i64 h) ∧ w'.cell? ⟨w2.heap.size, 3, none⟩ = some (.int .i64 a) ∧ w'.cell? ⟨w2.heap.size, 4, none⟩ = some (.int .i64 no) ∧ w'.cell? ⟨w2.heap.size, 5, none⟩ = some (.string t) ∧ w'.cell? ⟨w2.heap.size, 6, none⟩ = some (.bool false))) (go_keep) (fail)
        go_wp2
        show bodyPost _ _ _ _ _ (World.drew (setAll (setAll W5 (w.heap.size + 1) 0 (RowV.cells ⟨⟨u, s, h, a⟩, no + 1⟩)) (w.heap.size + 1 + 1) 0 (BoxV.cells ⟨⟨u, s, h, a⟩, no, t, false⟩)))
        generalize setAll (setAll W5 (w.heap.size + 1) 0 (RowV.cells ⟨⟨u, s, h, a⟩, no + 1⟩)) (w.heap.size + 1 + 1) 0 (BoxV.cells ⟨⟨u, s, h, a⟩, no, t, false⟩) = WE at RE QE LE ⊢
        refine row_ret21 (w := WE.drew) (r := w.heap.size + 1) (r' := w.heap.size + 1 + 1) (cs := List.toArray (RowV.cells ⟨⟨u, s, h, a⟩, no + 1⟩)) (cs' := List.toArray (BoxV.cells ⟨⟨u, s, h, a⟩, no, t, false⟩)) rfl rfl rfl rfl
          RE.out Tryz.underlying27 rfl (by kernel_rfl) QE.out Tryz.underlying32 rfl (by kernel_rfl) rfl ⟨?_, drewN_below LE.out 1⟩
        rw [HR.out.1, HR.out.2.1, HR.out.2.2]
        rfl

set_option maxHeartbeats 4000000 in
theorem Take_spec (r : RowV) (b : BoxV) (w : World) : Calls Tryz.prog 33 #[r.val, b.val] w fun e w' => e = .returned (.tuple #[(takeR r b).val, .string (takeT r b), .bool (takeB r b)]) ∧ Below w.heap.size w w' := by
  obtain ⟨⟨u, s, h, a⟩, no⟩ := r
  obtain ⟨⟨xu, xs, xh, xa⟩, xn, xt, xp⟩ := b
  have HV : Hid (RowV.val ⟨⟨u, s, h, a⟩, no⟩ = .agg #[.int .i64 u, .int .i64 s, .int .i64 h, .int .i64 a, .int .i64 no]) := rfl
  have HV' : Hid (BoxV.val ⟨⟨xu, xs, xh, xa⟩, xn, xt, xp⟩ = .agg #[.int .i64 xu, .int .i64 xs, .int .i64 xh, .int .i64 xa, .int .i64 xn, .string xt, .bool xp]) := rfl
  rw [HV.out, HV'.out]
  go_enter Tryz.func33, Tryz.ntmps33
  go_wp2_with fail
  refine (RowOk_spec ⟨⟨u, s, h, a⟩, no⟩ _).mono ?_
  rintro e w1 ⟨rfl, hb⟩
  have K1 := Lib.hid (blk_on hb (heap3a w _ _ _))
  have X1 := Lib.hid (blk_on hb (heap3b w _ _ _))
  have R1 := Lib.hid (blk_on hb (heap3c w _ _ _))
  have L1 := Lib.hid (below_new3 hb)
  clear hb
  cases hr : rowOkB ⟨⟨u, s, h, a⟩, no⟩ with
  | false =>
    have HR : Hid (takeR ⟨⟨u, s, h, a⟩, no⟩ ⟨⟨xu, xs, xh, xa⟩, xn, xt, xp⟩ = .zero ∧ takeT ⟨⟨u, s, h, a⟩, no⟩ ⟨⟨xu, xs, xh, xa⟩, xn, xt, xp⟩ = ⟨#[]⟩ ∧ takeB ⟨⟨u, s, h, a⟩, no⟩ ⟨⟨xu, xs, xh, xa⟩, xn, xt, xp⟩ = false) := by
      have e : takeB ⟨⟨u, s, h, a⟩, no⟩ ⟨⟨xu, xs, xh, xa⟩, xn, xt, xp⟩ = false := by simp [takeB, hr]
      exact ⟨by simp [takeR, hr], by simp [takeT, e], e⟩
    clear hr
    obtain ⟨⟨a0, a1, a2, a3, a4⟩, q0, q1, q2, q3, q4⟩ := blk5 R1.out
    go_wp2
    refine row_ret3 (r := w.heap.size + 1 + 1) (cs := List.toArray RowV.zero.cells) rfl rfl rfl rfl (setAll_whole (w := w1) (vs := RowV.zero.cells) R1.out rfl) Tryz.underlying27 rfl (by kernel_rfl) rfl ⟨?_, setAll_below (w := w1) (by omega) RowV.zero.cells 0 L1.out⟩
    rw [HR.out.1, HR.out.2.1, HR.out.2.2]
    rfl
  | true =>
    obtain ⟨⟨d0, d1, d2, d3, d4⟩, _⟩ := blk5 K1.out
    obtain ⟨⟨c0, c1, c2, c3, c4, c5, c6⟩, _⟩ := blk7 X1.out
    go_wp2_with fail
    clear d0 d1 d2 d3 d4 c0 c1 c2 c3 c4 c5 c6
    refine (Opened_spec ⟨⟨xu, xs, xh, xa⟩, xn, xt, xp⟩ ⟨u, s, h, a⟩ no _).mono ?_
    rintro e w2 ⟨rfl, b2⟩
    have K2 := Lib.hid (blk_on b2 K1.out)
    have R2 := Lib.hid (blk_on b2 R1.out)
    have L2 := Lib.hid (L1.out.trans (b2.mono L1.out.size))
    clear b2 K1 R1 L1 X1
    cases ho : openB ⟨⟨xu, xs, xh, xa⟩, xn, xt, xp⟩ ⟨u, s, h, a⟩ no with
    | false =>
      have HR : Hid (takeR ⟨⟨u, s, h, a⟩, no⟩ ⟨⟨xu, xs, xh, xa⟩, xn, xt, xp⟩ = ⟨⟨u, s, h, a⟩, no⟩ ∧ takeT ⟨⟨u, s, h, a⟩, no⟩ ⟨⟨xu, xs, xh, xa⟩, xn, xt, xp⟩ = ⟨#[]⟩ ∧ takeB ⟨⟨u, s, h, a⟩, no⟩ ⟨⟨xu, xs, xh, xa⟩, xn, xt, xp⟩ = false) := by
        have e : takeB ⟨⟨u, s, h, a⟩, no⟩ ⟨⟨xu, xs, xh, xa⟩, xn, xt, xp⟩ = false := by simp [takeB, ho]
        exact ⟨by simp [takeR, hr, e], by simp [takeT, e], e⟩
      rw [open_false ho]
      obtain ⟨⟨a0, a1, a2, a3, a4⟩, q0, q1, q2, q3, q4⟩ := blk5 R2.out
      obtain ⟨⟨d0, d1, d2, d3, d4⟩, _⟩ := blk5 K2.out
      go_wp2
      refine row_ret3 (r := w.heap.size + 1 + 1) (cs := List.toArray (RowV.cells ⟨⟨u, s, h, a⟩, no⟩)) rfl rfl rfl rfl (setAll_whole (w := w2) (vs := (RowV.cells ⟨⟨u, s, h, a⟩, no⟩)) R2.out rfl) Tryz.underlying27 rfl (by kernel_rfl) rfl ⟨?_, setAll_below (w := w2) (by omega) (RowV.cells ⟨⟨u, s, h, a⟩, no⟩) 0 L2.out⟩
      rw [HR.out.1, HR.out.2.1, HR.out.2.2]
      rfl
    | true =>
      rw [(open_true ho).2.2.2]
      obtain ⟨⟨d0, d1, d2, d3, d4⟩, _⟩ := blk5 K2.out
      go_wp2_with fail
      clear d0 d1 d2 d3 d4
      refine (l5Goes_any ⟨⟨u, s, h, a⟩, no⟩ _).mono ?_
      rintro e w4 ⟨rfl, b4⟩
      have K4 := Lib.hid (blk_on b4 K2.out)
      have R4 := Lib.hid (blk_on b4 R2.out)
      have L4 := Lib.hid (L2.out.trans (b4.mono L2.out.size))
      clear b4 K2 R2 L2
      cases hg : goesB ⟨⟨u, s, h, a⟩, no⟩ with
      | false =>
        have HR : Hid (takeR ⟨⟨u, s, h, a⟩, no⟩ ⟨⟨xu, xs, xh, xa⟩, xn, xt, xp⟩ = ⟨⟨u, s, h, a⟩, no⟩ ∧ takeT ⟨⟨u, s, h, a⟩, no⟩ ⟨⟨xu, xs, xh, xa⟩, xn, xt, xp⟩ = ⟨#[]⟩ ∧ takeB ⟨⟨u, s, h, a⟩, no⟩ ⟨⟨xu, xs, xh, xa⟩, xn, xt, xp⟩ = false) := by
          have e : takeB ⟨⟨u, s, h, a⟩, no⟩ ⟨⟨xu, xs, xh, xa⟩, xn, xt, xp⟩ = false := by simp [takeB, hg]
          exact ⟨by simp [takeR, hr, e], by simp [takeT, e], e⟩
        obtain ⟨⟨a0, a1, a2, a3, a4⟩, q0, q1, q2, q3, q4⟩ := blk5 R4.out
        obtain ⟨⟨d0, d1, d2, d3, d4⟩, _⟩ := blk5 K4.out
        go_wp2
        refine row_ret3 (r := w.heap.size + 1 + 1) (cs := List.toArray (RowV.cells ⟨⟨u, s, h, a⟩, no⟩)) rfl rfl rfl rfl (setAll_whole (w := w4) (vs := (RowV.cells ⟨⟨u, s, h, a⟩, no⟩)) R4.out rfl) Tryz.underlying27 rfl (by kernel_rfl) rfl ⟨?_, setAll_below (w := w4) (by omega) (RowV.cells ⟨⟨u, s, h, a⟩, no⟩) 0 L4.out⟩
        rw [HR.out.1, HR.out.2.1, HR.out.2.2]
        rfl
      | true =>
        obtain ⟨hn0, hn1⟩ := goes_range hg hr
        dsimp only at hn0 hn1
        have HR : Hid (takeR ⟨⟨u, s, h, a⟩, no⟩ ⟨⟨xu, xs, xh, xa⟩, xn, xt, xp⟩ = ⟨⟨u, s, h, a⟩, no + 1⟩ ∧ takeT ⟨⟨u, s, h, a⟩, no⟩ ⟨⟨xu, xs, xh, xa⟩, xn, xt, xp⟩ = xt ∧ takeB ⟨⟨u, s, h, a⟩, no⟩ ⟨⟨xu, xs, xh, xa⟩, xn, xt, xp⟩ = true) := by
          have e : takeB ⟨⟨u, s, h, a⟩, no⟩ ⟨⟨xu, xs, xh, xa⟩, xn, xt, xp⟩ = true := by simp [takeB, hr, ho, hg]
          exact ⟨by simp [takeR, hr, e, RowV.on], by simp [takeT, e], e⟩
        have R5 := Lib.hid (blk_away (p := ⟨w.heap.size, 4, none⟩) (u := .int .i64 (no + 1)) R4.out (by show w.heap.size + 1 + 1 ≠ w.heap.size; omega))
        have L5 := Lib.hid (L4.out.setCell (p := ⟨w.heap.size, 4, none⟩) (Nat.le_refl _) (.int .i64 (no + 1)))
        obtain ⟨⟨a0, a1, a2, a3, a4⟩, q0, q1, q2, q3, q4⟩ := blk5 R4.out
        obtain ⟨⟨d0, d1, d2, d3, d4⟩, f0, f1, f2, f3, f4⟩ := blk5 K4.out
        have n5 : ¬ w.heap.size = w.heap.size + 1 + 1 := by omega
        have n6 : ¬ w.heap.size + 1 + 1 = w.heap.size := by omega
        go_wp2
        refine row_ret3 (r := w.heap.size + 1 + 1) (cs := List.toArray (RowV.cells ⟨⟨u, s, h, a⟩, no + 1⟩)) rfl rfl rfl rfl (setAll_whole (w := w4.setCell ⟨w.heap.size, 4, none⟩ (.int .i64 (no + 1))) (vs := (RowV.cells ⟨⟨u, s, h, a⟩, no + 1⟩)) R5.out rfl) Tryz.underlying27 rfl (by kernel_rfl) rfl ⟨?_, setAll_below (w := w4.setCell ⟨w.heap.size, 4, none⟩ (.int .i64 (no + 1))) (by omega) (RowV.cells ⟨⟨u, s, h, a⟩, no + 1⟩) 0 L5.out⟩
        rw [HR.out.1, HR.out.2.1, HR.out.2.2]
        rfl



end Go.Proofs.YtchdmmlkgglmcaaGreatDoor.Tx

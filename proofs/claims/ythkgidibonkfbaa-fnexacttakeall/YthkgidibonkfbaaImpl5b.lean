/-
  What Put and Take of the program answer. No conditions.
-/
import Derived.Test.YthkgidibonkfbaaImpl5a
import Derived.Test.YthkgidibonkfbaaRegionO
namespace Go.Proofs.Ythkgidibonkfbaa.Tx
open Go.RowKit

set_option maxHeartbeats 4000000 in
theorem Put_impl (r : RowV) (t : ByteArray) (w : World) : Calls Try.prog 15 #[r.val, .string t] w fun e w' => e = .returned (.tuple #[(putR r t).val, (putX r t).val, .bool (putB r t)]) ∧ Below w.heap.size w w' := by
  obtain ⟨⟨u, s, h, a⟩, no⟩ := r
  have HV : Hid (RowV.val ⟨⟨u, s, h, a⟩, no⟩ = .agg #[.int .i64 u, .int .i64 s, .int .i64 h, .int .i64 a, .int .i64 no]) := rfl
  rw [HV.out]
  go_enter Try.func15, Try.ntmps15
  go_wp2_with fail
  refine (keyed_any ⟨⟨u, s, h, a⟩, no⟩ _).mono ?_
  rintro e w1 ⟨rfl, hb⟩
  have K1 := Lib.hid (blk_on hb (heap3a w _ _ _))
  have R1 := Lib.hid (blk_on hb (heap3b w _ _ _))
  have Q1 := Lib.hid (blk_on hb (heap3c w _ _ _))
  have L1 := Lib.hid (below_new3 hb)
  have s1 := blk_in Q1.out
  clear hb
  rw [HV.out]
  go_wp2_with fail
  refine (rowRight_any ⟨⟨u, s, h, a⟩, no⟩ _).mono ?_
  rintro e w2 ⟨rfl, b2⟩
  have K2 := Lib.hid (blk_on b2 (alloc_blk K1.out))
  have R2 := Lib.hid (blk_on b2 (alloc_blk R1.out))
  have Q2 := Lib.hid (blk_on b2 (alloc_blk Q1.out))
  have Y2 := Lib.hid (blk_on b2 (heap1 w1 _))
  have L2 := Lib.hid ((L1.out.alloc L1.out.size _).trans (b2.mono (L1.out.alloc L1.out.size _).size))
  have s2 := blk_in Y2.out
  clear b2 K1 R1 Q1 L1
  cases hr : rowOkB ⟨⟨u, s, h, a⟩, no⟩ with
  | false =>
    have HR : Hid (putR ⟨⟨u, s, h, a⟩, no⟩ t = .zero ∧ putX ⟨⟨u, s, h, a⟩, no⟩ t = .zero ∧ putB ⟨⟨u, s, h, a⟩, no⟩ t = false) := by
      have e : putB ⟨⟨u, s, h, a⟩, no⟩ t = false := by simp [putB, hr]
      exact ⟨by simp [putR, hr], by simp [putX, e], e⟩
    clear hr
    obtain ⟨⟨a0, a1, a2, a3, a4⟩, q0, q1, q2, q3, q4⟩ := blk5 R2.out
    obtain ⟨⟨b0, b1, b2, b3, b4, b5, b6⟩, p0, p1, p2, p3, p4, p5, p6⟩ := blk7 Q2.out
    have RE : Hid ((setAll (setAll w2 (w.heap.size + 1) 0 RowV.zero.cells) (w.heap.size + 1 + 1) 0 BoxV.zero.cells).heap[w.heap.size + 1]? = some (.cells (List.toArray RowV.zero.cells) 27 (0, 0))) := setAll_away (w := setAll w2 (w.heap.size + 1) 0 RowV.zero.cells) (b := w.heap.size + 1) (g := w.heap.size + 1 + 1) (by omega) BoxV.zero.cells 0 (setAll_whole (w := w2) (vs := RowV.zero.cells) R2.out rfl)
    have QE : Hid ((setAll (setAll w2 (w.heap.size + 1) 0 RowV.zero.cells) (w.heap.size + 1 + 1) 0 BoxV.zero.cells).heap[w.heap.size + 1 + 1]? = some (.cells (List.toArray BoxV.zero.cells) 39 (0, 0))) := setAll_whole (w := setAll w2 (w.heap.size + 1) 0 RowV.zero.cells) (vs := BoxV.zero.cells) (setAll_away (w := w2) (b := w.heap.size + 1 + 1) (g := w.heap.size + 1) (by omega) RowV.zero.cells 0 Q2.out) rfl
    have LE : Hid (Below w.heap.size w (setAll (setAll w2 (w.heap.size + 1) 0 RowV.zero.cells) (w.heap.size + 1 + 1) 0 BoxV.zero.cells)) := setAll_below (by omega) BoxV.zero.cells 0 (setAll_below (by omega) RowV.zero.cells 0 L2.out)
    go_wp2
    show bodyPost _ _ _ _ _ (setAll (setAll w2 (w.heap.size + 1) 0 RowV.zero.cells) (w.heap.size + 1 + 1) 0 BoxV.zero.cells)
    generalize setAll (setAll w2 (w.heap.size + 1) 0 RowV.zero.cells) (w.heap.size + 1 + 1) 0 BoxV.zero.cells = WE at RE QE LE ⊢
    refine row_ret21 (w := WE) (r := w.heap.size + 1) (r' := w.heap.size + 1 + 1) (cs := List.toArray RowV.zero.cells) (cs' := List.toArray BoxV.zero.cells) rfl rfl rfl rfl RE.out Try.underlying27 rfl (by kernel_rfl) QE.out Try.underlying39 rfl (by kernel_rfl) rfl ⟨?_, LE.out⟩
    rw [HR.out.1, HR.out.2.1, HR.out.2.2]
    rfl
  | true =>
    obtain ⟨⟨d0, d1, d2, d3, d4⟩, _⟩ := blk5 Y2.out
    go_wp2_with fail
    clear d0 d1 d2 d3 d4
    refine (lock_any ⟨u, s, h, a⟩ no t _).mono ?_
    rintro e w3 ⟨rfl, b3⟩
    replace K2 := Lib.hid (blk_on b3 K2.out)
    replace R2 := Lib.hid (blk_on b3 R2.out)
    replace Q2 := Lib.hid (blk_on b3 Q2.out)
    replace Y2 := Lib.hid (blk_on b3 Y2.out)
    replace L2 := Lib.hid (L2.out.trans (b3.mono L2.out.size))
    have s3 := blk_in Y2.out
    clear b3
    obtain ⟨⟨⟨xu, xs, xh, xa⟩, xn, xt, xp⟩, hx⟩ : ∃ x, lockV ⟨⟨u, s, h, a⟩, no, t, false⟩ = x := ⟨_, rfl⟩
    have HXV : Hid (BoxV.val ⟨⟨xu, xs, xh, xa⟩, xn, xt, xp⟩ = .agg #[.int .i64 xu, .int .i64 xs, .int .i64 xh, .int .i64 xa, .int .i64 xn, .string xt, .bool xp]) := rfl
    have HX := Lib.hid hx
    rw [hx, HXV.out]
    clear hx
    obtain ⟨W4, hW4⟩ : ∃ W, w3.alloc (.cells #[.int .i64 xu, .int .i64 xs, .int .i64 xh, .int .i64 xa, .int .i64 xn, .string xt, .bool xp] 39) = W := ⟨_, rfl⟩
    replace K2 := Lib.hid (alloc_blk (o := .cells #[.int .i64 xu, .int .i64 xs, .int .i64 xh, .int .i64 xa, .int .i64 xn, .string xt, .bool xp] 39) K2.out)
    replace R2 := Lib.hid (alloc_blk (o := .cells #[.int .i64 xu, .int .i64 xs, .int .i64 xh, .int .i64 xa, .int .i64 xn, .string xt, .bool xp] 39) R2.out)
    replace Q2 := Lib.hid (alloc_blk (o := .cells #[.int .i64 xu, .int .i64 xs, .int .i64 xh, .int .i64 xa, .int .i64 xn, .string xt, .bool xp] 39) Q2.out)
    replace Y2 := Lib.hid (alloc_blk (o := .cells #[.int .i64 xu, .int .i64 xs, .int .i64 xh, .int .i64 xa, .int .i64 xn, .string xt, .bool xp] 39) Y2.out)
    have X2 := Lib.hid (heap1 w3 (.cells #[.int .i64 xu, .int .i64 xs, .int .i64 xh, .int .i64 xa, .int .i64 xn, .string xt, .bool xp] 39))
    replace L2 := Lib.hid (L2.out.alloc L2.out.size (.cells #[.int .i64 xu, .int .i64 xs, .int .i64 xh, .int .i64 xa, .int .i64 xn, .string xt, .bool xp] 39))
    rw [hW4] at K2 R2 Q2 Y2 X2 L2
    cases hok : boxOkB ⟨⟨u, s, h, a⟩, no, t, false⟩ with
    | false =>
      have HR : Hid (putR ⟨⟨u, s, h, a⟩, no⟩ t = ⟨⟨u, s, h, a⟩, no⟩ ∧ putX ⟨⟨u, s, h, a⟩, no⟩ t = .zero ∧ putB ⟨⟨u, s, h, a⟩, no⟩ t = false) := by
        have e : putB ⟨⟨u, s, h, a⟩, no⟩ t = false := by simp [putB, hok]
        exact ⟨by simp [putR, hr, e], by simp [putX, e], e⟩
      obtain ⟨⟨a0, a1, a2, a3, a4⟩, q0, q1, q2, q3, q4⟩ := blk5 R2.out
      obtain ⟨⟨b0, b1, b2, b3, b4, b5, b6⟩, p0, p1, p2, p3, p4, p5, p6⟩ := blk7 Q2.out
      obtain ⟨⟨d0, d1, d2, d3, d4⟩, _⟩ := blk5 K2.out
      have RE : Hid ((setAll (setAll W4 (w.heap.size + 1) 0 (RowV.cells ⟨⟨u, s, h, a⟩, no⟩)) (w.heap.size + 1 + 1) 0 BoxV.zero.cells).heap[w.heap.size + 1]? = some (.cells (List.toArray (RowV.cells ⟨⟨u, s, h, a⟩, no⟩)) 27 (0, 0))) := setAll_away (w := setAll W4 (w.heap.size + 1) 0 (RowV.cells ⟨⟨u, s, h, a⟩, no⟩)) (b := w.heap.size + 1) (g := w.heap.size + 1 + 1) (by omega) BoxV.zero.cells 0 (setAll_whole (w := W4) (vs := (RowV.cells ⟨⟨u, s, h, a⟩, no⟩)) R2.out rfl)
      have QE : Hid ((setAll (setAll W4 (w.heap.size + 1) 0 (RowV.cells ⟨⟨u, s, h, a⟩, no⟩)) (w.heap.size + 1 + 1) 0 BoxV.zero.cells).heap[w.heap.size + 1 + 1]? = some (.cells (List.toArray BoxV.zero.cells) 39 (0, 0))) := setAll_whole (w := setAll W4 (w.heap.size + 1) 0 (RowV.cells ⟨⟨u, s, h, a⟩, no⟩)) (vs := BoxV.zero.cells) (setAll_away (w := W4) (b := w.heap.size + 1 + 1) (g := w.heap.size + 1) (by omega) (RowV.cells ⟨⟨u, s, h, a⟩, no⟩) 0 Q2.out) rfl
      have LE : Hid (Below w.heap.size w (setAll (setAll W4 (w.heap.size + 1) 0 (RowV.cells ⟨⟨u, s, h, a⟩, no⟩)) (w.heap.size + 1 + 1) 0 BoxV.zero.cells)) := setAll_below (by omega) BoxV.zero.cells 0 (setAll_below (by omega) (RowV.cells ⟨⟨u, s, h, a⟩, no⟩) 0 L2.out)
      go_wp2
      clear hW4
      show bodyPost _ _ _ _ _ (setAll (setAll W4 (w.heap.size + 1) 0 (RowV.cells ⟨⟨u, s, h, a⟩, no⟩)) (w.heap.size + 1 + 1) 0 BoxV.zero.cells)
      generalize setAll (setAll W4 (w.heap.size + 1) 0 (RowV.cells ⟨⟨u, s, h, a⟩, no⟩)) (w.heap.size + 1 + 1) 0 BoxV.zero.cells = WE at RE QE LE ⊢
      refine row_ret21 (w := WE) (r := w.heap.size + 1) (r' := w.heap.size + 1 + 1) (cs := List.toArray (RowV.cells ⟨⟨u, s, h, a⟩, no⟩)) (cs' := List.toArray BoxV.zero.cells) rfl rfl rfl rfl RE.out Try.underlying27 rfl (by kernel_rfl) QE.out Try.underlying39 rfl (by kernel_rfl) rfl ⟨?_, LE.out⟩
      rw [HR.out.1, HR.out.2.1, HR.out.2.2]
      rfl
    | true =>
      obtain ⟨⟨d0, d1, d2, d3, d4⟩, _⟩ := blk5 Y2.out
      go_wp2_with fail
      clear hW4 d0 d1 d2 d3 d4
      refine (goesOn_any ⟨⟨u, s, h, a⟩, no⟩ _).mono ?_
      rintro e w5 ⟨rfl, b5⟩
      replace K2 := Lib.hid (blk_on b5 K2.out)
      replace R2 := Lib.hid (blk_on b5 R2.out)
      replace Q2 := Lib.hid (blk_on b5 Q2.out)
      replace Y2 := Lib.hid (blk_on b5 Y2.out)
      replace X2 := Lib.hid (blk_on b5 X2.out)
      replace L2 := Lib.hid (L2.out.trans (b5.mono L2.out.size))
      clear b5
      cases hg : goesB ⟨⟨u, s, h, a⟩, no⟩ with
      | false =>
        have HR : Hid (putR ⟨⟨u, s, h, a⟩, no⟩ t = ⟨⟨u, s, h, a⟩, no⟩ ∧ putX ⟨⟨u, s, h, a⟩, no⟩ t = .zero ∧ putB ⟨⟨u, s, h, a⟩, no⟩ t = false) := by
          have e : putB ⟨⟨u, s, h, a⟩, no⟩ t = false := by simp [putB, hg]
          exact ⟨by simp [putR, hr, e], by simp [putX, e], e⟩
        obtain ⟨⟨a0, a1, a2, a3, a4⟩, q0, q1, q2, q3, q4⟩ := blk5 R2.out
        obtain ⟨⟨b0, b1, b2, b3, b4, b5, b6⟩, p0, p1, p2, p3, p4, p5, p6⟩ := blk7 Q2.out
        obtain ⟨⟨d0, d1, d2, d3, d4⟩, _⟩ := blk5 K2.out
        have RE : Hid ((setAll (setAll w5 (w.heap.size + 1) 0 (RowV.cells ⟨⟨u, s, h, a⟩, no⟩)) (w.heap.size + 1 + 1) 0 BoxV.zero.cells).heap[w.heap.size + 1]? = some (.cells (List.toArray (RowV.cells ⟨⟨u, s, h, a⟩, no⟩)) 27 (0, 0))) := setAll_away (w := setAll w5 (w.heap.size + 1) 0 (RowV.cells ⟨⟨u, s, h, a⟩, no⟩)) (b := w.heap.size + 1) (g := w.heap.size + 1 + 1) (by omega) BoxV.zero.cells 0 (setAll_whole (w := w5) (vs := (RowV.cells ⟨⟨u, s, h, a⟩, no⟩)) R2.out rfl)
        have QE : Hid ((setAll (setAll w5 (w.heap.size + 1) 0 (RowV.cells ⟨⟨u, s, h, a⟩, no⟩)) (w.heap.size + 1 + 1) 0 BoxV.zero.cells).heap[w.heap.size + 1 + 1]? = some (.cells (List.toArray BoxV.zero.cells) 39 (0, 0))) := setAll_whole (w := setAll w5 (w.heap.size + 1) 0 (RowV.cells ⟨⟨u, s, h, a⟩, no⟩)) (vs := BoxV.zero.cells) (setAll_away (w := w5) (b := w.heap.size + 1 + 1) (g := w.heap.size + 1) (by omega) (RowV.cells ⟨⟨u, s, h, a⟩, no⟩) 0 Q2.out) rfl
        have LE : Hid (Below w.heap.size w (setAll (setAll w5 (w.heap.size + 1) 0 (RowV.cells ⟨⟨u, s, h, a⟩, no⟩)) (w.heap.size + 1 + 1) 0 BoxV.zero.cells)) := setAll_below (by omega) BoxV.zero.cells 0 (setAll_below (by omega) (RowV.cells ⟨⟨u, s, h, a⟩, no⟩) 0 L2.out)
        go_wp2
        show bodyPost _ _ _ _ _ (setAll (setAll w5 (w.heap.size + 1) 0 (RowV.cells ⟨⟨u, s, h, a⟩, no⟩)) (w.heap.size + 1 + 1) 0 BoxV.zero.cells)
        generalize setAll (setAll w5 (w.heap.size + 1) 0 (RowV.cells ⟨⟨u, s, h, a⟩, no⟩)) (w.heap.size + 1 + 1) 0 BoxV.zero.cells = WE at RE QE LE ⊢
        refine row_ret21 (w := WE) (r := w.heap.size + 1) (r' := w.heap.size + 1 + 1) (cs := List.toArray (RowV.cells ⟨⟨u, s, h, a⟩, no⟩)) (cs' := List.toArray BoxV.zero.cells) rfl rfl rfl rfl RE.out Try.underlying27 rfl (by kernel_rfl) QE.out Try.underlying39 rfl (by kernel_rfl) rfl ⟨?_, LE.out⟩
        rw [HR.out.1, HR.out.2.1, HR.out.2.2]
        rfl
      | true =>
        obtain ⟨hn0, hn1⟩ := goes_range hg hr
        dsimp only at hn0 hn1
        have HR : Hid (putR ⟨⟨u, s, h, a⟩, no⟩ t = ⟨⟨u, s, h, a⟩, no + 1⟩ ∧ putX ⟨⟨u, s, h, a⟩, no⟩ t = ⟨⟨u, s, h, a⟩, no, t, false⟩ ∧ putB ⟨⟨u, s, h, a⟩, no⟩ t = true) := by
          have e : putB ⟨⟨u, s, h, a⟩, no⟩ t = true := by simp [putB, hr, hok, hg]
          exact ⟨by simp [putR, hr, e, RowV.on], by simp [putX, e], e⟩
        have hlk : lockV ⟨⟨u, s, h, a⟩, no, t, false⟩ = ⟨⟨u, s, h, a⟩, no, t, false⟩ := by simp [lockV, hok]
        have h1 := hlk.symm.trans HX.out
        clear hlk HX
        injection h1 with h2 z4 z5 z6
        injection h2 with z0 z1 z2 z3
        subst z0; subst z1; subst z2; subst z3; subst z4; subst z5; subst z6
        go_wp2
        refine wp_region_own (W := w5) [w.heap.size + 1, w.heap.size + 1 + 1] (fun w' => w'.heap[w.heap.size + 1]? = some (.cells #[.int .i64 0, .int .i64 0, .int .i64 0, .int .i64 0, .int .i64 0] 27) ∧ w'.heap[w.heap.size + 1 + 1]? = some (.cells #[.int .i64 0, .int .i64 0, .int .i64 0, .int .i64 0, .int .i64 0, .string ⟨#[]⟩, .bool false] 39)) (stays_and (stays_blk (E := plainEnv w5 [w.heap.size + 1, w.heap.size + 1 + 1]) (Or.inr (by simp)) _) (stays_blk (Or.inr (by simp)) _)) ⟨R2.out, Q2.out⟩ [0, 1, 0, 3, 3, 0] (by kernel_rfl) (by kernel_rfl) (by kernel_rfl) ?_
        have f1 : ∀ q : In (plainEnv w5 [w.heap.size + 1, w.heap.size + 1 + 1]), _ := fun q => (blk5 (q.block Y2.out (by simp; omega))).1
        have f2 : ∀ q : In (plainEnv w5 [w.heap.size + 1, w.heap.size + 1 + 1]), _ := fun q => (blk7 (q.block X2.out (by simp; omega))).1
        refine wpO_quiet 1 rfl (by kernel_rfl) ?_
        simp only [List.take, List.drop]
        repeat (go_big_quiet_step (fail))
        refine wpQuiet_nil ?_
        refine wpO_call (f := 52) (args := #[.agg #[.int .i64 u, .int .i64 s, .int .i64 h, .int .i64 a, .int .i64 no]]) (.agg #[.int .i64 u, .int .i64 s, .int .i64 h, .int .i64 a, .int .i64 (no + 1)]) rfl (fun w' => by simp [go_sem]) (fun w' _ _ => rowNext_any ⟨⟨u, s, h, a⟩, no⟩ hn0 hn1 w') ?_
        simp only [Act.put, List.setIfInBounds_toArray, List.set_cons_succ, List.set_cons_zero]
        refine wpO_quiet 1 rfl (by kernel_rfl) ?_
        simp only [List.take, List.drop]
        repeat (go_big_quiet_step (fail))
        refine wpQuiet_nil ?_
        refine wpO_store (g := w.heap.size + 1) (t := 27) (old := #[.int .i64 0, .int .i64 0, .int .i64 0, .int .i64 0, .int .i64 0]) (fun w' => w'.heap[w.heap.size + 1 + 1]? = some (.cells #[.int .i64 0, .int .i64 0, .int .i64 0, .int .i64 0, .int .i64 0, .string ⟨#[]⟩, .bool false] 39)) #[.int .i64 u, .int .i64 s, .int .i64 h, .int .i64 a, .int .i64 (no + 1)] rfl rfl rfl rfl (Or.inr (by simp)) (by kernel_rfl) rfl rfl (fun w' h => ⟨h.2, h.1⟩) (stays_blk (Or.inr (by simp)) _) (away_blk (by omega) _) ?_
        refine wpO_store (g := w.heap.size + 1 + 1) (t := 39) (old := #[.int .i64 0, .int .i64 0, .int .i64 0, .int .i64 0, .int .i64 0, .string ⟨#[]⟩, .bool false]) (fun w' => w'.heap[w.heap.size + 1]? = some (.cells #[.int .i64 u, .int .i64 s, .int .i64 h, .int .i64 a, .int .i64 (no + 1)] 27)) #[.int .i64 u, .int .i64 s, .int .i64 h, .int .i64 a, .int .i64 no, .string t, .bool false] rfl rfl rfl rfl (Or.inr (by simp)) (by kernel_rfl) rfl rfl (fun w' h => ⟨h.2, h.1⟩) (stays_blk (Or.inr (by simp)) _) (away_blk (by omega) _) ?_
        simp only [Act.put]
        refine wpO_quiet 1 rfl (by kernel_rfl) ?_
        simp only [List.take, List.drop]
        repeat (go_big_quiet_step (fail))
        refine wpQuiet_nil ?_
        refine wpO_nil ?_
        rintro w9 b9 ⟨H0, H1⟩
        clear f1 f2
        have B9 : Hid (Below w.heap.size w w9) := L2.out.trans (KeptBut.below b9 L2.out.size (by simp; omega))
        have H0' := Lib.hid H0
        have H1' := Lib.hid H1
        clear H0 H1 b9
        go_wp2
        refine row_ret21 (r := w.heap.size + 1) (r' := w.heap.size + 1 + 1) (cs := #[.int .i64 u, .int .i64 s, .int .i64 h, .int .i64 a, .int .i64 (no + 1)]) (cs' := #[.int .i64 u, .int .i64 s, .int .i64 h, .int .i64 a, .int .i64 no, .string t, .bool false]) rfl rfl rfl rfl H0'.out Try.underlying27 rfl (by kernel_rfl) H1'.out Try.underlying39 rfl (by kernel_rfl) rfl ⟨?_, B9.out⟩
        rw [HR.out.1, HR.out.2.1, HR.out.2.2]
        rfl

set_option maxHeartbeats 4000000 in
theorem Take_impl (r : RowV) (b : BoxV) (w : World) : Calls Try.prog 17 #[r.val, b.val] w fun e w' => e = .returned (.tuple #[(takeR r b).val, .string (takeT r b), .bool (takeB r b)]) ∧ Below w.heap.size w w' := by
  obtain ⟨⟨u, s, h, a⟩, no⟩ := r
  obtain ⟨⟨xu, xs, xh, xa⟩, xn, xt, xp⟩ := b
  have HV : Hid (RowV.val ⟨⟨u, s, h, a⟩, no⟩ = .agg #[.int .i64 u, .int .i64 s, .int .i64 h, .int .i64 a, .int .i64 no]) := rfl
  have HV' : Hid (BoxV.val ⟨⟨xu, xs, xh, xa⟩, xn, xt, xp⟩ = .agg #[.int .i64 xu, .int .i64 xs, .int .i64 xh, .int .i64 xa, .int .i64 xn, .string xt, .bool xp]) := rfl
  rw [HV.out, HV'.out]
  go_enter Try.func17, Try.ntmps17
  go_wp2_with fail
  refine (keyed_any ⟨⟨u, s, h, a⟩, no⟩ _).mono ?_
  rintro e w1 ⟨rfl, hb⟩
  have K1 := Lib.hid (blk_on hb (heap3a w _ _ _))
  have X1 := Lib.hid (blk_on hb (heap3b w _ _ _))
  have R1 := Lib.hid (blk_on hb (heap3c w _ _ _))
  have L1 := Lib.hid (below_new3 hb)
  have s1 := blk_in R1.out
  clear hb
  rw [HV.out]
  go_wp2_with fail
  refine (rowRight_any ⟨⟨u, s, h, a⟩, no⟩ _).mono ?_
  rintro e w2 ⟨rfl, b2⟩
  have K2 := Lib.hid (blk_on b2 (alloc_blk K1.out))
  have X2 := Lib.hid (blk_on b2 (alloc_blk X1.out))
  have R2 := Lib.hid (blk_on b2 (alloc_blk R1.out))
  have Y2 := Lib.hid (blk_on b2 (heap1 w1 _))
  have L2 := Lib.hid ((L1.out.alloc L1.out.size _).trans (b2.mono (L1.out.alloc L1.out.size _).size))
  clear b2 K1 R1 X1 L1
  cases hr : rowOkB ⟨⟨u, s, h, a⟩, no⟩ with
  | false =>
    have HR : Hid (takeR ⟨⟨u, s, h, a⟩, no⟩ ⟨⟨xu, xs, xh, xa⟩, xn, xt, xp⟩ = .zero ∧ takeT ⟨⟨u, s, h, a⟩, no⟩ ⟨⟨xu, xs, xh, xa⟩, xn, xt, xp⟩ = ⟨#[]⟩ ∧ takeB ⟨⟨u, s, h, a⟩, no⟩ ⟨⟨xu, xs, xh, xa⟩, xn, xt, xp⟩ = false) := by
      have e : takeB ⟨⟨u, s, h, a⟩, no⟩ ⟨⟨xu, xs, xh, xa⟩, xn, xt, xp⟩ = false := by simp [takeB, hr]
      exact ⟨by simp [takeR, hr], by simp [takeT, e], e⟩
    clear hr
    obtain ⟨⟨a0, a1, a2, a3, a4⟩, q0, q1, q2, q3, q4⟩ := blk5 R2.out
    go_wp2
    refine row_ret3 (r := w.heap.size + 1 + 1) (cs := List.toArray RowV.zero.cells) rfl rfl rfl rfl (setAll_whole (w := w2) (vs := RowV.zero.cells) R2.out rfl) Try.underlying27 rfl (by kernel_rfl) rfl ⟨?_, setAll_below (w := w2) (by omega) RowV.zero.cells 0 L2.out⟩
    rw [HR.out.1, HR.out.2.1, HR.out.2.2]
    rfl
  | true =>
    obtain ⟨⟨d0, d1, d2, d3, d4⟩, _⟩ := blk5 Y2.out
    obtain ⟨⟨c0, c1, c2, c3, c4, c5, c6⟩, _⟩ := blk7 X2.out
    go_wp2_with fail
    clear d0 d1 d2 d3 d4 c0 c1 c2 c3 c4 c5 c6
    refine (open_any ⟨u, s, h, a⟩ ⟨⟨xu, xs, xh, xa⟩, xn, xt, xp⟩ no _).mono ?_
    rintro e w3 ⟨rfl, b3⟩
    replace K2 := Lib.hid (blk_on b3 K2.out)
    replace R2 := Lib.hid (blk_on b3 R2.out)
    replace Y2 := Lib.hid (blk_on b3 Y2.out)
    replace L2 := Lib.hid (L2.out.trans (b3.mono L2.out.size))
    clear b3 X2
    cases ho : openB ⟨⟨xu, xs, xh, xa⟩, xn, xt, xp⟩ ⟨u, s, h, a⟩ no with
    | false =>
      have HR : Hid (takeR ⟨⟨u, s, h, a⟩, no⟩ ⟨⟨xu, xs, xh, xa⟩, xn, xt, xp⟩ = ⟨⟨u, s, h, a⟩, no⟩ ∧ takeT ⟨⟨u, s, h, a⟩, no⟩ ⟨⟨xu, xs, xh, xa⟩, xn, xt, xp⟩ = ⟨#[]⟩ ∧ takeB ⟨⟨u, s, h, a⟩, no⟩ ⟨⟨xu, xs, xh, xa⟩, xn, xt, xp⟩ = false) := by
        have e : takeB ⟨⟨u, s, h, a⟩, no⟩ ⟨⟨xu, xs, xh, xa⟩, xn, xt, xp⟩ = false := by simp [takeB, ho]
        exact ⟨by simp [takeR, hr, e], by simp [takeT, e], e⟩
      rw [open_false ho]
      obtain ⟨⟨a0, a1, a2, a3, a4⟩, q0, q1, q2, q3, q4⟩ := blk5 R2.out
      obtain ⟨⟨d0, d1, d2, d3, d4⟩, _⟩ := blk5 K2.out
      go_wp2
      refine row_ret3 (r := w.heap.size + 1 + 1) (cs := List.toArray (RowV.cells ⟨⟨u, s, h, a⟩, no⟩)) rfl rfl rfl rfl (setAll_whole (w := w3) (vs := (RowV.cells ⟨⟨u, s, h, a⟩, no⟩)) R2.out rfl) Try.underlying27 rfl (by kernel_rfl) rfl ⟨?_, setAll_below (w := w3) (by omega) (RowV.cells ⟨⟨u, s, h, a⟩, no⟩) 0 L2.out⟩
      rw [HR.out.1, HR.out.2.1, HR.out.2.2]
      rfl
    | true =>
      rw [(open_true ho).2.2.2]
      obtain ⟨⟨d0, d1, d2, d3, d4⟩, _⟩ := blk5 Y2.out
      go_wp2_with fail
      clear d0 d1 d2 d3 d4
      refine (goesOn_any ⟨⟨u, s, h, a⟩, no⟩ _).mono ?_
      rintro e w4 ⟨rfl, b4⟩
      replace K2 := Lib.hid (blk_on b4 K2.out)
      replace R2 := Lib.hid (blk_on b4 R2.out)
      replace Y2 := Lib.hid (blk_on b4 Y2.out)
      replace L2 := Lib.hid (L2.out.trans (b4.mono L2.out.size))
      clear b4
      cases hg : goesB ⟨⟨u, s, h, a⟩, no⟩ with
      | false =>
        have HR : Hid (takeR ⟨⟨u, s, h, a⟩, no⟩ ⟨⟨xu, xs, xh, xa⟩, xn, xt, xp⟩ = ⟨⟨u, s, h, a⟩, no⟩ ∧ takeT ⟨⟨u, s, h, a⟩, no⟩ ⟨⟨xu, xs, xh, xa⟩, xn, xt, xp⟩ = ⟨#[]⟩ ∧ takeB ⟨⟨u, s, h, a⟩, no⟩ ⟨⟨xu, xs, xh, xa⟩, xn, xt, xp⟩ = false) := by
          have e : takeB ⟨⟨u, s, h, a⟩, no⟩ ⟨⟨xu, xs, xh, xa⟩, xn, xt, xp⟩ = false := by simp [takeB, hg]
          exact ⟨by simp [takeR, hr, e], by simp [takeT, e], e⟩
        obtain ⟨⟨a0, a1, a2, a3, a4⟩, q0, q1, q2, q3, q4⟩ := blk5 R2.out
        obtain ⟨⟨d0, d1, d2, d3, d4⟩, _⟩ := blk5 K2.out
        go_wp2
        refine row_ret3 (r := w.heap.size + 1 + 1) (cs := List.toArray (RowV.cells ⟨⟨u, s, h, a⟩, no⟩)) rfl rfl rfl rfl (setAll_whole (w := w4) (vs := (RowV.cells ⟨⟨u, s, h, a⟩, no⟩)) R2.out rfl) Try.underlying27 rfl (by kernel_rfl) rfl ⟨?_, setAll_below (w := w4) (by omega) (RowV.cells ⟨⟨u, s, h, a⟩, no⟩) 0 L2.out⟩
        rw [HR.out.1, HR.out.2.1, HR.out.2.2]
        rfl
      | true =>
        obtain ⟨hn0, hn1⟩ := goes_range hg hr
        dsimp only at hn0 hn1
        have HR : Hid (takeR ⟨⟨u, s, h, a⟩, no⟩ ⟨⟨xu, xs, xh, xa⟩, xn, xt, xp⟩ = ⟨⟨u, s, h, a⟩, no + 1⟩ ∧ takeT ⟨⟨u, s, h, a⟩, no⟩ ⟨⟨xu, xs, xh, xa⟩, xn, xt, xp⟩ = xt ∧ takeB ⟨⟨u, s, h, a⟩, no⟩ ⟨⟨xu, xs, xh, xa⟩, xn, xt, xp⟩ = true) := by
          have e : takeB ⟨⟨u, s, h, a⟩, no⟩ ⟨⟨xu, xs, xh, xa⟩, xn, xt, xp⟩ = true := by simp [takeB, hr, ho, hg]
          exact ⟨by simp [takeR, hr, e, RowV.on], by simp [takeT, e], e⟩
        obtain ⟨⟨d0, d1, d2, d3, d4⟩, _⟩ := blk5 Y2.out
        go_wp2_with fail
        clear d0 d1 d2 d3 d4
        refine (rowNext_any ⟨⟨u, s, h, a⟩, no⟩ hn0 hn1 _).mono ?_
        rintro e w5 ⟨rfl, b5⟩
        replace R2 := Lib.hid (blk_on b5 R2.out)
        replace L2 := Lib.hid (L2.out.trans (b5.mono L2.out.size))
        clear b5
        have HN : Hid (RowV.val (RowV.on ⟨⟨u, s, h, a⟩, no⟩) = .agg #[.int .i64 u, .int .i64 s, .int .i64 h, .int .i64 a, .int .i64 (no + 1)]) := rfl
        rw [HN.out]
        obtain ⟨⟨a0, a1, a2, a3, a4⟩, q0, q1, q2, q3, q4⟩ := blk5 R2.out
        go_wp2
        refine row_ret3 (r := w.heap.size + 1 + 1) (cs := List.toArray (RowV.cells ⟨⟨u, s, h, a⟩, no + 1⟩)) rfl rfl rfl rfl (setAll_whole (w := w5) (vs := (RowV.cells ⟨⟨u, s, h, a⟩, no + 1⟩)) R2.out rfl) Try.underlying27 rfl (by kernel_rfl) rfl ⟨?_, setAll_below (w := w5) (by omega) (RowV.cells ⟨⟨u, s, h, a⟩, no + 1⟩) 0 L2.out⟩
        rw [HR.out.1, HR.out.2.1, HR.out.2.2]
        rfl

end Go.Proofs.Ythkgidibonkfbaa.Tx

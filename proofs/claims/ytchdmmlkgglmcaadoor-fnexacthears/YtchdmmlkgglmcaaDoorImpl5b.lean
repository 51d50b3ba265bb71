/-
  What Put and Take of the program answer. No conditions.
-/
import Derived.Test.YtchdmmlkgglmcaaDoorImpl5a
import Derived.Test.YtchdmmlkgglmcaaDoorRegionO
namespace Go.Proofs.YtchdmmlkgglmcaaDoor.Tx
open Go.RowKit


set_option maxHeartbeats 4000000 in
theorem Take_impl (r : RowV) (b : BoxV) (w : World) : Calls Tryd.prog 128 #[r.val, b.val] w fun e w' => e = .returned (.tuple #[(takeR r b).val, .string (takeT r b), .bool (takeB r b)]) ∧ Below w.heap.size w w' := by
  obtain ⟨⟨u, s, h, a⟩, no⟩ := r
  obtain ⟨⟨xu, xs, xh, xa⟩, xn, xt, xp⟩ := b
  have HV : Hid (RowV.val ⟨⟨u, s, h, a⟩, no⟩ = .agg #[.int .i64 u, .int .i64 s, .int .i64 h, .int .i64 a, .int .i64 no]) := rfl
  have HV' : Hid (BoxV.val ⟨⟨xu, xs, xh, xa⟩, xn, xt, xp⟩ = .agg #[.int .i64 xu, .int .i64 xs, .int .i64 xh, .int .i64 xa, .int .i64 xn, .string xt, .bool xp]) := rfl
  rw [HV.out, HV'.out]
  go_enter Tryd.func128, Tryd.ntmps128
  go_wp2_with fail
  refine (keyed_any ⟨⟨u, s, h, a⟩, no⟩ _).mono ?_
  rintro e w1 ⟨rfl, hb⟩
  have K1 := Lib.hid (blk_on hb (heap3a w _ _ _))
  have X1 := Lib.hid (blk_on hb (heap3b w _ _ _))
  have R1 := Lib.hid (blk_on hb (heap3c w _ _ _))
  have L1 := Lib.hid (below_new3 hb)
  have s1 := blk_in R1.out
  clear hb
  rw [HV.out]
  go_wp2_with fail
  refine (rowRight_any ⟨⟨u, s, h, a⟩, no⟩ _).mono ?_
  rintro e w2 ⟨rfl, b2⟩
  have K2 := Lib.hid (blk_on b2 (alloc_blk K1.out))
  have X2 := Lib.hid (blk_on b2 (alloc_blk X1.out))
  have R2 := Lib.hid (blk_on b2 (alloc_blk R1.out))
  have Y2 := Lib.hid (blk_on b2 (heap1 w1 _))
  have L2 := Lib.hid ((L1.out.alloc L1.out.size _).trans (b2.mono (L1.out.alloc L1.out.size _).size))
  clear b2 K1 R1 X1 L1
  cases hr : rowOkB ⟨⟨u, s, h, a⟩, no⟩ with
  | false =>
    have HR : Hid (takeR ⟨⟨u, s, h, a⟩, no⟩ ⟨⟨xu, xs, xh, xa⟩, xn, xt, xp⟩ = .zero ∧ takeT ⟨⟨u, s, h, a⟩, no⟩ ⟨⟨xu, xs, xh, xa⟩, xn, xt, xp⟩ = ⟨#[]⟩ ∧ takeB ⟨⟨u, s, h, a⟩, no⟩ ⟨⟨xu, xs, xh, xa⟩, xn, xt, xp⟩ = false) := by
      have e : takeB ⟨⟨u, s, h, a⟩, no⟩ ⟨⟨xu, xs, xh, xa⟩, xn, xt, xp⟩ = false := by simp [takeB, hr]
      exact ⟨by simp [takeR, hr], by simp [takeT, e], e⟩
    clear hr
    obtain ⟨⟨a0, a1, a2, a3, a4⟩, q0, q1, q2, q3, q4⟩ := blk5 R2.out
    go_wp2
    refine row_ret3 (r := w.heap.size + 1 + 1) (cs := List.toArray RowV.zero.cells) rfl rfl rfl rfl (setAll_whole (w := w2) (vs := RowV.zero.cells) R2.out rfl) Tryd.underlying29 rfl (by kernel_rfl) rfl ⟨?_, setAll_below (w := w2) (by omega) RowV.zero.cells 0 L2.out⟩
    rw [HR.out.1, HR.out.2.1, HR.out.2.2]
    rfl
  | true =>
    obtain ⟨⟨d0, d1, d2, d3, d4⟩, _⟩ := blk5 Y2.out
    obtain ⟨⟨c0, c1, c2, c3, c4, c5, c6⟩, _⟩ := blk7 X2.out
    go_wp2_with fail
    clear d0 d1 d2 d3 d4 c0 c1 c2 c3 c4 c5 c6
    refine (open_any ⟨u, s, h, a⟩ ⟨⟨xu, xs, xh, xa⟩, xn, xt, xp⟩ no _).mono ?_
    rintro e w3 ⟨rfl, b3⟩
    replace K2 := Lib.hid (blk_on b3 K2.out)
    replace R2 := Lib.hid (blk_on b3 R2.out)
    replace Y2 := Lib.hid (blk_on b3 Y2.out)
    replace L2 := Lib.hid (L2.out.trans (b3.mono L2.out.size))
    clear b3 X2
    cases ho : openB ⟨⟨xu, xs, xh, xa⟩, xn, xt, xp⟩ ⟨u, s, h, a⟩ no with
    | false =>
      have HR : Hid (takeR ⟨⟨u, s, h, a⟩, no⟩ ⟨⟨xu, xs, xh, xa⟩, xn, xt, xp⟩ = ⟨⟨u, s, h, a⟩, no⟩ ∧ takeT ⟨⟨u, s, h, a⟩, no⟩ ⟨⟨xu, xs, xh, xa⟩, xn, xt, xp⟩ = ⟨#[]⟩ ∧ takeB ⟨⟨u, s, h, a⟩, no⟩ ⟨⟨xu, xs, xh, xa⟩, xn, xt, xp⟩ = false) := by
        have e : takeB ⟨⟨u, s, h, a⟩, no⟩ ⟨⟨xu, xs, xh, xa⟩, xn, xt, xp⟩ = false := by simp [takeB, ho]
        exact ⟨by simp [takeR, hr, e], by simp [takeT, e], e⟩
      rw [open_false ho]
      obtain ⟨⟨a0, a1, a2, a3, a4⟩, q0, q1, q2, q3, q4⟩ := blk5 R2.out
      obtain ⟨⟨d0, d1, d2, d3, d4⟩, _⟩ := blk5 K2.out
      go_wp2
      refine row_ret3 (r := w.heap.size + 1 + 1) (cs := List.toArray (RowV.cells ⟨⟨u, s, h, a⟩, no⟩)) rfl rfl rfl rfl (setAll_whole (w := w3) (vs := (RowV.cells ⟨⟨u, s, h, a⟩, no⟩)) R2.out rfl) Tryd.underlying29 rfl (by kernel_rfl) rfl ⟨?_, setAll_below (w := w3) (by omega) (RowV.cells ⟨⟨u, s, h, a⟩, no⟩) 0 L2.out⟩
      rw [HR.out.1, HR.out.2.1, HR.out.2.2]
      rfl
    | true =>
      rw [(open_true ho).2.2.2]
      obtain ⟨⟨d0, d1, d2, d3, d4⟩, _⟩ := blk5 Y2.out
      go_wp2_with fail
      clear d0 d1 d2 d3 d4
      refine (goesOn_any ⟨⟨u, s, h, a⟩, no⟩ _).mono ?_
      rintro e w4 ⟨rfl, b4⟩
      replace K2 := Lib.hid (blk_on b4 K2.out)
      replace R2 := Lib.hid (blk_on b4 R2.out)
      replace Y2 := Lib.hid (blk_on b4 Y2.out)
      replace L2 := Lib.hid (L2.out.trans (b4.mono L2.out.size))
      clear b4
      cases hg : goesB ⟨⟨u, s, h, a⟩, no⟩ with
      | false =>
        have HR : Hid (takeR ⟨⟨u, s, h, a⟩, no⟩ ⟨⟨xu, xs, xh, xa⟩, xn, xt, xp⟩ = ⟨⟨u, s, h, a⟩, no⟩ ∧ takeT ⟨⟨u, s, h, a⟩, no⟩ ⟨⟨xu, xs, xh, xa⟩, xn, xt, xp⟩ = ⟨#[]⟩ ∧ takeB ⟨⟨u, s, h, a⟩, no⟩ ⟨⟨xu, xs, xh, xa⟩, xn, xt, xp⟩ = false) := by
          have e : takeB ⟨⟨u, s, h, a⟩, no⟩ ⟨⟨xu, xs, xh, xa⟩, xn, xt, xp⟩ = false := by simp [takeB, hg]
          exact ⟨by simp [takeR, hr, e], by simp [takeT, e], e⟩
        obtain ⟨⟨a0, a1, a2, a3, a4⟩, q0, q1, q2, q3, q4⟩ := blk5 R2.out
        obtain ⟨⟨d0, d1, d2, d3, d4⟩, _⟩ := blk5 K2.out
        go_wp2
        refine row_ret3 (r := w.heap.size + 1 + 1) (cs := List.toArray (RowV.cells ⟨⟨u, s, h, a⟩, no⟩)) rfl rfl rfl rfl (setAll_whole (w := w4) (vs := (RowV.cells ⟨⟨u, s, h, a⟩, no⟩)) R2.out rfl) Tryd.underlying29 rfl (by kernel_rfl) rfl ⟨?_, setAll_below (w := w4) (by omega) (RowV.cells ⟨⟨u, s, h, a⟩, no⟩) 0 L2.out⟩
        rw [HR.out.1, HR.out.2.1, HR.out.2.2]
        rfl
      | true =>
        obtain ⟨hn0, hn1⟩ := goes_range hg hr
        dsimp only at hn0 hn1
        have HR : Hid (takeR ⟨⟨u, s, h, a⟩, no⟩ ⟨⟨xu, xs, xh, xa⟩, xn, xt, xp⟩ = ⟨⟨u, s, h, a⟩, no + 1⟩ ∧ takeT ⟨⟨u, s, h, a⟩, no⟩ ⟨⟨xu, xs, xh, xa⟩, xn, xt, xp⟩ = xt ∧ takeB ⟨⟨u, s, h, a⟩, no⟩ ⟨⟨xu, xs, xh, xa⟩, xn, xt, xp⟩ = true) := by
          have e : takeB ⟨⟨u, s, h, a⟩, no⟩ ⟨⟨xu, xs, xh, xa⟩, xn, xt, xp⟩ = true := by simp [takeB, hr, ho, hg]
          exact ⟨by simp [takeR, hr, e, RowV.on], by simp [takeT, e], e⟩
        obtain ⟨⟨d0, d1, d2, d3, d4⟩, _⟩ := blk5 Y2.out
        go_wp2_with fail
        clear d0 d1 d2 d3 d4
        refine (rowNext_any ⟨⟨u, s, h, a⟩, no⟩ hn0 hn1 _).mono ?_
        rintro e w5 ⟨rfl, b5⟩
        replace R2 := Lib.hid (blk_on b5 R2.out)
        replace L2 := Lib.hid (L2.out.trans (b5.mono L2.out.size))
        clear b5
        have HN : Hid (RowV.val (RowV.on ⟨⟨u, s, h, a⟩, no⟩) = .agg #[.int .i64 u, .int .i64 s, .int .i64 h, .int .i64 a, .int .i64 (no + 1)]) := rfl
        rw [HN.out]
        obtain ⟨⟨a0, a1, a2, a3, a4⟩, q0, q1, q2, q3, q4⟩ := blk5 R2.out
        go_wp2
        refine row_ret3 (r := w.heap.size + 1 + 1) (cs := List.toArray (RowV.cells ⟨⟨u, s, h, a⟩, no + 1⟩)) rfl rfl rfl rfl (setAll_whole (w := w5) (vs := (RowV.cells ⟨⟨u, s, h, a⟩, no + 1⟩)) R2.out rfl) Tryd.underlying29 rfl (by kernel_rfl) rfl ⟨?_, setAll_below (w := w5) (by omega) (RowV.cells ⟨⟨u, s, h, a⟩, no + 1⟩) 0 L2.out⟩
        rw [HR.out.1, HR.out.2.1, HR.out.2.2]
        rfl

end Go.Proofs.YtchdmmlkgglmcaaDoor.Tx

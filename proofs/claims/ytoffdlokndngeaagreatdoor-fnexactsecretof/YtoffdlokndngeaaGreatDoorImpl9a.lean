/-
  What isTime, HelloOk and Greeting of the program answer. No conditions.
-/
import Derived.Test.YtoffdlokndngeaaGreatDoorHello2
import Derived.Test.YtoffdlokndngeaaGreatDoorImpl4
import Derived.Test.YtoffdlokndngeaaGreatDoorTime
namespace Go.Proofs.YtoffdlokndngeaaGreatDoor.Tx
open Go.RowKit

/-- A greeting where it is right, else the zero one. -/
def rightH (q : HelV) : HelV := if helOkB q then q else .zero


set_option maxHeartbeats 4000000 in
theorem isWithoutToken_any (q : HelV) (w : World) : Calls Tryz.prog 94 #[q.val] w fun e w' => e = .returned (.bool (bareB q)) ∧ Below w.heap.size w w' := by
  obtain ⟨d, ag, ⟨⟨xu, xs, xh, xa⟩, xn, xt, xp⟩, g, ⟨⟨yu, ys, yh, ya⟩, yn, yt, yp⟩, ea⟩ := q
  have HV : Hid (HelV.val ⟨d, ag, ⟨⟨xu, xs, xh, xa⟩, xn, xt, xp⟩, g, ⟨⟨yu, ys, yh, ya⟩, yn, yt, yp⟩, ea⟩ = .agg #[.int .i64 d, .bool ag, .int .i64 xu, .int .i64 xs, .int .i64 xh, .int .i64 xa, .int .i64 xn, .string xt, .bool xp, .int .i64 g, .int .i64 yu, .int .i64 ys, .int .i64 yh, .int .i64 ya, .int .i64 yn, .string yt, .bool yp, .bool ea]) := rfl
  rw [HV.out]
  obtain ⟨W, hW⟩ : ∃ W, w.alloc (.cells #[.int .i64 d, .bool ag, .int .i64 xu, .int .i64 xs, .int .i64 xh, .int .i64 xa, .int .i64 xn, .string xt, .bool xp, .int .i64 g, .int .i64 yu, .int .i64 ys, .int .i64 yh, .int .i64 ya, .int .i64 yn, .string yt, .bool yp, .bool ea] 32) = W := ⟨_, rfl⟩
  have K : Hid (Below w.heap.size w W) := by rw [← hW]; exact (Below.refl _ w).alloc (Nat.le_refl _) _
  have G : Hid (W.heap[w.heap.size]? = some (.cells #[.int .i64 d, .bool ag, .int .i64 xu, .int .i64 xs, .int .i64 xh, .int .i64 xa, .int .i64 xn, .string xt, .bool xp, .int .i64 g, .int .i64 yu, .int .i64 ys, .int .i64 yh, .int .i64 ya, .int .i64 yn, .string yt, .bool yp, .bool ea] 32)) := by rw [← hW]; exact heap1 w _
  have c0 : W.cell? ⟨w.heap.size, 0, none⟩ = some (.int .i64 d) := blk_cell G.out 0
  have c1 : W.cell? ⟨w.heap.size, 1, none⟩ = some (.bool ag) := blk_cell G.out 1
  have hq := eq_hello_bare d ag xu xs xh xa xn xt xp g yu ys yh ya yn yt yp ea
  generalize bareB ⟨d, ag, ⟨⟨xu, xs, xh, xa⟩, xn, xt, xp⟩, g, ⟨⟨yu, ys, yh, ya⟩, yn, yt, yp⟩, ea⟩ = z at hq ⊢
  go_enter Tryz.func94, Tryz.ntmps94
  go_wp2_with (refine wpList_load_row rfl 32 _ rfl (w.heap.size) rfl 32 _ (0, 0) _ G.out Tryz.underlying32 rfl (by kernel_rfl) ?_)
  go_ret
  exact ⟨rfl, K.out⟩

set_option maxHeartbeats 8000000 in
theorem HelloOk_impl (q : HelV) (w : World) : Calls Tryz.prog 63 #[q.val] w fun e w' => e = .returned (.bool (helOkB q)) ∧ Below w.heap.size w w' := by
  obtain ⟨d, ag, ⟨⟨xu, xs, xh, xa⟩, xn, xt, xp⟩, g, ⟨⟨yu, ys, yh, ya⟩, yn, yt, yp⟩, ea⟩ := q
  have HV : Hid (HelV.val ⟨d, ag, ⟨⟨xu, xs, xh, xa⟩, xn, xt, xp⟩, g, ⟨⟨yu, ys, yh, ya⟩, yn, yt, yp⟩, ea⟩ = .agg #[.int .i64 d, .bool ag, .int .i64 xu, .int .i64 xs, .int .i64 xh, .int .i64 xa, .int .i64 xn, .string xt, .bool xp, .int .i64 g, .int .i64 yu, .int .i64 ys, .int .i64 yh, .int .i64 ya, .int .i64 yn, .string yt, .bool yp, .bool ea]) := rfl
  rw [HV.out]
  obtain ⟨W, hW⟩ : ∃ W, w.alloc (.cells #[.int .i64 d, .bool ag, .int .i64 xu, .int .i64 xs, .int .i64 xh, .int .i64 xa, .int .i64 xn, .string xt, .bool xp, .int .i64 g, .int .i64 yu, .int .i64 ys, .int .i64 yh, .int .i64 ya, .int .i64 yn, .string yt, .bool yp, .bool ea] 32) = W := ⟨_, rfl⟩
  have HB0 : Hid (Below w.heap.size w W) := by rw [← hW]; exact (Below.refl _ w).alloc (Nat.le_refl _) _
  have G0 : Hid (W.heap[w.heap.size]? = some (.cells #[.int .i64 d, .bool ag, .int .i64 xu, .int .i64 xs, .int .i64 xh, .int .i64 xa, .int .i64 xn, .string xt, .bool xp, .int .i64 g, .int .i64 yu, .int .i64 ys, .int .i64 yh, .int .i64 ya, .int .i64 yn, .string yt, .bool yp, .bool ea] 32)) := by rw [← hW]; exact heap1 w _
  obtain ⟨⟨a0, a1, a2, a3, a4, a5, a6, a7, a8, a9, a10, a11, a12, a13, a14, a15, a16, a17⟩, _⟩ := blk18 G0.out
  have HR : Hid (helOkB ⟨d, ag, ⟨⟨xu, xs, xh, xa⟩, xn, xt, xp⟩, g, ⟨⟨yu, ys, yh, ya⟩, yn, yt, yp⟩, ea⟩ = (isDrawB d && (!(ag && ea) && (bareB ⟨d, ag, ⟨⟨xu, xs, xh, xa⟩, xn, xt, xp⟩, g, ⟨⟨yu, ys, yh, ya⟩, yn, yt, yp⟩, ea⟩ || (boxOkB ⟨⟨xu, xs, xh, xa⟩, xn, xt, xp⟩ && (inB g 0 100000 && boxOkB ⟨⟨yu, ys, yh, ya⟩, yn, yt, yp⟩)))))) := by show _ = _; rw [Bool.and_comm (inB g 0 100000)]; rfl
  have cZ : Hid (∀ w' : World, Calls Tryz.prog 94 #[.agg #[.int .i64 d, .bool ag, .int .i64 xu, .int .i64 xs, .int .i64 xh, .int .i64 xa, .int .i64 xn, .string xt, .bool xp, .int .i64 g, .int .i64 yu, .int .i64 ys, .int .i64 yh, .int .i64 ya, .int .i64 yn, .string yt, .bool yp, .bool ea]] w' fun e w'' => e = .returned (.bool (bareB ⟨d, ag, ⟨⟨xu, xs, xh, xa⟩, xn, xt, xp⟩, g, ⟨⟨yu, ys, yh, ya⟩, yn, yt, yp⟩, ea⟩)) ∧ Below w'.heap.size w' w'') := fun w' => isWithoutToken_any ⟨d, ag, ⟨⟨xu, xs, xh, xa⟩, xn, xt, xp⟩, g, ⟨⟨yu, ys, yh, ya⟩, yn, yt, yp⟩, ea⟩ w'
  have cX : Hid (∀ w' : World, Calls Tryz.prog 95 #[.agg #[.int .i64 xu, .int .i64 xs, .int .i64 xh, .int .i64 xa, .int .i64 xn, .string xt, .bool xp]] w' fun e w'' => e = .returned (.bool (boxOkB ⟨⟨xu, xs, xh, xa⟩, xn, xt, xp⟩)) ∧ Below w'.heap.size w' w'') := fun w' => BoxOk_impl ⟨⟨xu, xs, xh, xa⟩, xn, xt, xp⟩ w'
  have cY : Hid (∀ w' : World, Calls Tryz.prog 95 #[.agg #[.int .i64 yu, .int .i64 ys, .int .i64 yh, .int .i64 ya, .int .i64 yn, .string yt, .bool yp]] w' fun e w'' => e = .returned (.bool (boxOkB ⟨⟨yu, ys, yh, ya⟩, yn, yt, yp⟩)) ∧ Below w'.heap.size w' w'') := fun w' => BoxOk_impl ⟨⟨yu, ys, yh, ya⟩, yn, yt, yp⟩ w'
  generalize bareB ⟨d, ag, ⟨⟨xu, xs, xh, xa⟩, xn, xt, xp⟩, g, ⟨⟨yu, ys, yh, ya⟩, yn, yt, yp⟩, ea⟩ = zb at HR cZ
  generalize boxOkB ⟨⟨xu, xs, xh, xa⟩, xn, xt, xp⟩ = zx at HR cX
  generalize boxOkB ⟨⟨yu, ys, yh, ya⟩, yn, yt, yp⟩ = zy at HR cY
  have cT : Hid (∀ w' : World, Calls Tryz.prog 64 #[.int .i64 g] w' fun e w'' => e = .returned (.bool (inB g 0 100000)) ∧ Below w'.heap.size w' w'') := fun w' => (isTime_any g w').mono fun _ _ ⟨he, hw⟩ => ⟨he, hw ▸ Below.refl _ _⟩
  generalize inB g 0 100000 = zt at HR cT
  have cD : Hid (∀ w' : World, Calls Tryz.prog 93 #[.int .i64 d] w' fun e w'' => e = .returned (.bool (isDrawB d)) ∧ w' = w'') := fun w' => IsDraw_same d w'
  generalize isDrawB d = zd at HR cD
  rw [HR.out]
  clear HR HV
  go_enter Tryz.func63, Tryz.ntmps63
  go_wp2_with fail
  clear hW
  refine (cD.out _).mono ?_
  rintro e w' ⟨rfl, rfl⟩
  cases zd with
  | false =>
    go_wp2
    go_ret
    exact ⟨rfl, HB0.out⟩
  | true =>
    cases ag with
    | false =>
      go_wp2_with (refine wpList_load_row rfl 32 _ rfl (w.heap.size) rfl 32 _ (0, 0) _ G0.out Tryz.underlying32 rfl (by kernel_rfl) ?_)
      refine (cZ.out _).mono ?_
      rintro e w1 ⟨rfl, hb⟩
      have G1 := Lib.hid (blk_on hb G0.out)
      have HB1 := Lib.hid (HB0.out.trans (hb.mono HB0.out.size))
      clear hb a0 a1 a2 a3 a4 a5 a6 a7 a8 a9 a10 a11 a12 a13 a14 a15 a16 a17
      obtain ⟨⟨a0, a1, a2, a3, a4, a5, a6, a7, a8, a9, a10, a11, a12, a13, a14, a15, a16, a17⟩, _⟩ := blk18 G1.out
      cases zb with
      | true =>
        go_wp2
        go_ret
        exact ⟨rfl, HB1.out⟩
      | false =>
        go_wp2_with fail
        refine (cX.out _).mono ?_
        rintro e w2 ⟨rfl, hb⟩
        have G2 := Lib.hid (blk_on hb G1.out)
        have HB2 := Lib.hid (HB1.out.trans (hb.mono HB1.out.size))
        clear hb a0 a1 a2 a3 a4 a5 a6 a7 a8 a9 a10 a11 a12 a13 a14 a15 a16 a17
        obtain ⟨⟨a0, a1, a2, a3, a4, a5, a6, a7, a8, a9, a10, a11, a12, a13, a14, a15, a16, a17⟩, _⟩ := blk18 G2.out
        cases zx with
        | false =>
          go_wp2
          go_ret
          exact ⟨rfl, HB2.out⟩
        | true =>
          go_wp2_with fail
          refine (cT.out _).mono ?_
          rintro e w3 ⟨rfl, hb⟩
          have G3 := Lib.hid (blk_on hb G2.out)
          have HB3 := Lib.hid (HB2.out.trans (hb.mono HB2.out.size))
          clear hb a0 a1 a2 a3 a4 a5 a6 a7 a8 a9 a10 a11 a12 a13 a14 a15 a16 a17
          obtain ⟨⟨a0, a1, a2, a3, a4, a5, a6, a7, a8, a9, a10, a11, a12, a13, a14, a15, a16, a17⟩, _⟩ := blk18 G3.out
          cases zt with
          | false =>
            go_wp2
            go_ret
            exact ⟨rfl, HB3.out⟩
          | true =>
            go_wp2_with fail
            refine (cY.out _).mono ?_
            rintro e w4 ⟨rfl, hb⟩
            have G4 := Lib.hid (blk_on hb G3.out)
            have HB4 := Lib.hid (HB3.out.trans (hb.mono HB3.out.size))
            clear hb a0 a1 a2 a3 a4 a5 a6 a7 a8 a9 a10 a11 a12 a13 a14 a15 a16 a17
            obtain ⟨⟨a0, a1, a2, a3, a4, a5, a6, a7, a8, a9, a10, a11, a12, a13, a14, a15, a16, a17⟩, _⟩ := blk18 G4.out
            cases zy with
            | false =>
              go_wp2
              go_ret
              exact ⟨rfl, HB4.out⟩
            | true =>
              go_wp2
              go_ret
              exact ⟨rfl, HB4.out⟩
    | true =>
      cases ea with
      | true =>
        go_wp2
        go_ret
        exact ⟨rfl, HB0.out⟩
      | false =>
        go_wp2_with (refine wpList_load_row rfl 32 _ rfl (w.heap.size) rfl 32 _ (0, 0) _ G0.out Tryz.underlying32 rfl (by kernel_rfl) ?_)
        refine (cZ.out _).mono ?_
        rintro e w1 ⟨rfl, hb⟩
        have G1 := Lib.hid (blk_on hb G0.out)
        have HB1 := Lib.hid (HB0.out.trans (hb.mono HB0.out.size))
        clear hb a0 a1 a2 a3 a4 a5 a6 a7 a8 a9 a10 a11 a12 a13 a14 a15 a16 a17
        obtain ⟨⟨a0, a1, a2, a3, a4, a5, a6, a7, a8, a9, a10, a11, a12, a13, a14, a15, a16, a17⟩, _⟩ := blk18 G1.out
        cases zb with
        | true =>
          go_wp2
          go_ret
          exact ⟨rfl, HB1.out⟩
        | false =>
          go_wp2_with fail
          refine (cX.out _).mono ?_
          rintro e w2 ⟨rfl, hb⟩
          have G2 := Lib.hid (blk_on hb G1.out)
          have HB2 := Lib.hid (HB1.out.trans (hb.mono HB1.out.size))
          clear hb a0 a1 a2 a3 a4 a5 a6 a7 a8 a9 a10 a11 a12 a13 a14 a15 a16 a17
          obtain ⟨⟨a0, a1, a2, a3, a4, a5, a6, a7, a8, a9, a10, a11, a12, a13, a14, a15, a16, a17⟩, _⟩ := blk18 G2.out
          cases zx with
          | false =>
            go_wp2
            go_ret
            exact ⟨rfl, HB2.out⟩
          | true =>
            go_wp2_with fail
            refine (cT.out _).mono ?_
            rintro e w3 ⟨rfl, hb⟩
            have G3 := Lib.hid (blk_on hb G2.out)
            have HB3 := Lib.hid (HB2.out.trans (hb.mono HB2.out.size))
            clear hb a0 a1 a2 a3 a4 a5 a6 a7 a8 a9 a10 a11 a12 a13 a14 a15 a16 a17
            obtain ⟨⟨a0, a1, a2, a3, a4, a5, a6, a7, a8, a9, a10, a11, a12, a13, a14, a15, a16, a17⟩, _⟩ := blk18 G3.out
            cases zt with
            | false =>
              go_wp2
              go_ret
              exact ⟨rfl, HB3.out⟩
            | true =>
              go_wp2_with fail
              refine (cY.out _).mono ?_
              rintro e w4 ⟨rfl, hb⟩
              have G4 := Lib.hid (blk_on hb G3.out)
              have HB4 := Lib.hid (HB3.out.trans (hb.mono HB3.out.size))
              clear hb a0 a1 a2 a3 a4 a5 a6 a7 a8 a9 a10 a11 a12 a13 a14 a15 a16 a17
              obtain ⟨⟨a0, a1, a2, a3, a4, a5, a6, a7, a8, a9, a10, a11, a12, a13, a14, a15, a16, a17⟩, _⟩ := blk18 G4.out
              cases zy with
              | false =>
                go_wp2
                go_ret
                exact ⟨rfl, HB4.out⟩
              | true =>
                go_wp2
                go_ret
                exact ⟨rfl, HB4.out⟩

end Go.Proofs.YtoffdlokndngeaaGreatDoor.Tx

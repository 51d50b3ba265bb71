/-
  What SaidAt, TokenIn and SecretOf of the model answer. No conditions.
-/
import Derived.Test.YtoffdlokndngeaaGreatDoorPick0
import Derived.Test.YtoffdlokndngeaaGreatDoorRegionR
namespace Go.Proofs.YtoffdlokndngeaaGreatDoor.Tx
open Go.RowKit

set_option maxHeartbeats 8000000 in
theorem TokenIn_spec (inn : Int) (q : HelV) (now : Int) (w : World) : Calls Tryz.prog 15 #[.int .i64 inn, q.val, .int .i64 now] w fun e w' => e = .returned (.tuple #[((tokenInO inn q now).getD .zero).val, .bool (tokenInO inn q now).isSome]) ∧ Below w.heap.size w w' := by
  have h1 : Hid (helOkB q = false → tokenInO inn q now = none) := tokenIn_bad
  have h2' : Hid ((unsealO inn q.x).isSome = false → tokenInO inn q now = none) := fun h => tokenIn_none (by simpa using h)
  have h3' : Hid ((unsealO inn q.x).isSome = true → freshB ((unsealO inn q.x).getD .zero) now = false → tokenInO inn q now = none) := fun h hf => by
    obtain ⟨t, ht⟩ := Option.isSome_iff_exists.1 h
    rw [ht] at hf
    exact tokenIn_stale ht hf
  have h4' : Hid ((unsealO inn q.x).isSome = true → bindsB q ((unsealO inn q.x).getD .zero).s = false → tokenInO inn q now = none) := fun h hf => by
    obtain ⟨t, ht⟩ := Option.isSome_iff_exists.1 h
    rw [ht] at hf
    exact tokenIn_other ht hf
  have h5' : Hid (helOkB q = true → (unsealO inn q.x).isSome = true → freshB ((unsealO inn q.x).getD .zero) now = true → bindsB q ((unsealO inn q.x).getD .zero).s = true → tokenInO inn q now = some ((unsealO inn q.x).getD .zero)) := fun h0 h hf hb => by
    obtain ⟨t, ht⟩ := Option.isSome_iff_exists.1 h
    rw [ht] at hf hb ⊢
    exact tokenIn_some h0 ht hf hb
  have cH := Lib.hid fun w' => HelloOk_spec q w'
  have cU := Lib.hid fun w' => Unsealed_spec inn q.x w'
  have cF := Lib.hid fun w' => Fresh_spec ((unsealO inn q.x).getD .zero) now w'
  have cB := Lib.hid fun w' => Binds_spec q ((unsealO inn q.x).getD .zero).s w'
  generalize tokenInO inn q now = O at h1 h2' h3' h4' h5' ⊢
  generalize (unsealO inn q.x).isSome = z at h2' h3' h4' h5' cU
  generalize (unsealO inn q.x).getD .zero = t at h3' h4' h5' cU cF cB
  generalize freshB t now = zf at h3' h5' cF
  generalize helOkB q = zh at h1 h5' cH
  generalize bindsB q t.s = zb at h4' h5' cB
  have h2 : Hid (zh = true → z = false → O = none) := fun _ => h2'.out
  have h3 : Hid (zh = true → z = true → zf = false → O = none) := fun _ => h3'.out
  have h4 : Hid (zh = true → z = true → zf = true → zb = false → O = none) := fun _ h _ => h4'.out h
  have h5 : Hid (zh = true → z = true → zf = true → zb = true → O = some t) := h5'.out
  clear h2' h3' h4' h5'
  obtain ⟨d, ag, ⟨⟨xu, xs, xh, xa⟩, xn, xt, xp⟩, g, ⟨⟨yu, ys, yh, ya⟩, yn, yt, yp⟩, ea⟩ := q
  obtain ⟨ts, tb, tl, tm, ⟨⟨pu, ps, ph, pa⟩, pn, pt, pp⟩⟩ := t
  have HV : Hid (HelV.val ⟨d, ag, ⟨⟨xu, xs, xh, xa⟩, xn, xt, xp⟩, g, ⟨⟨yu, ys, yh, ya⟩, yn, yt, yp⟩, ea⟩ = .agg #[.int .i64 d, .bool ag, .int .i64 xu, .int .i64 xs, .int .i64 xh, .int .i64 xa, .int .i64 xn, .string xt, .bool xp, .int .i64 g, .int .i64 yu, .int .i64 ys, .int .i64 yh, .int .i64 ya, .int .i64 yn, .string yt, .bool yp, .bool ea]) := rfl
  have HX : Hid (BoxV.val ⟨⟨xu, xs, xh, xa⟩, xn, xt, xp⟩ = .agg #[.int .i64 xu, .int .i64 xs, .int .i64 xh, .int .i64 xa, .int .i64 xn, .string xt, .bool xp]) := rfl
  have HT : Hid (TokV.val ⟨ts, tb, tl, tm, ⟨⟨pu, ps, ph, pa⟩, pn, pt, pp⟩⟩ = .agg #[.int .i64 ts, .int .i64 tb, .int .i64 tl, .int .i64 tm, .int .i64 pu, .int .i64 ps, .int .i64 ph, .int .i64 pa, .int .i64 pn, .string pt, .bool pp]) := rfl
  rw [HV.out] at cH cB ⊢
  dsimp only at cU cB
  rw [HX.out] at cU
  rw [HT.out] at cU cF
  clear HV HX
  obtain ⟨W0, hW0⟩ : ∃ W, (w.alloc (.cells #[.int .i64 d, .bool ag, .int .i64 xu, .int .i64 xs, .int .i64 xh, .int .i64 xa, .int .i64 xn, .string xt, .bool xp, .int .i64 g, .int .i64 yu, .int .i64 ys, .int .i64 yh, .int .i64 ya, .int .i64 yn, .string yt, .bool yp, .bool ea] 32)).alloc (.cells #[.int .i64 0, .int .i64 0, .int .i64 0, .int .i64 0, .int .i64 0, .int .i64 0, .int .i64 0, .int .i64 0, .int .i64 0, .string ⟨#[]⟩, .bool false] 39) = W := ⟨_, rfl⟩
  have K0 : Hid (Below w.heap.size w W0) := by rw [← hW0]; exact ((Below.refl _ w).alloc (Nat.le_refl _) _).alloc (by simp; try omega) _
  have Q0 : Hid (W0.heap[w.heap.size]? = some (.cells #[.int .i64 d, .bool ag, .int .i64 xu, .int .i64 xs, .int .i64 xh, .int .i64 xa, .int .i64 xn, .string xt, .bool xp, .int .i64 g, .int .i64 yu, .int .i64 ys, .int .i64 yh, .int .i64 ya, .int .i64 yn, .string yt, .bool yp, .bool ea] 32)) := by rw [← hW0]; exact heap2a w _ _
  have R0 : Hid (W0.heap[w.heap.size + 1]? = some (.cells #[.int .i64 0, .int .i64 0, .int .i64 0, .int .i64 0, .int .i64 0, .int .i64 0, .int .i64 0, .int .i64 0, .int .i64 0, .string ⟨#[]⟩, .bool false] 39)) := by rw [← hW0]; exact heap2b w _ _
  go_enter Tryz.func15, Tryz.ntmps15
  go_wp2_with (refine wpList_load_row rfl 32 _ rfl (w.heap.size) rfl 32 _ (0, 0) _ Q0.out Tryz.underlying32 rfl (by kernel_rfl) ?_)
  clear hW0
  refine (cH.out _).mono ?_
  rintro e w1 ⟨rfl, hb⟩
  have Q1 := Lib.hid (blk_on hb Q0.out)
  have R1 := Lib.hid (blk_on hb R0.out)
  have K1 := Lib.hid (K0.out.trans (hb.mono K0.out.size))
  clear hb Q0 R0 K0
  cases zh with
  | false =>
    go_wp2_with (refine wpList_store_row rfl 39 _ _ rfl (w.heap.size + 1) #[.int .i64 0, .int .i64 0, .int .i64 0, .int .i64 0, .int .i64 0, .int .i64 0, .int .i64 0, .int .i64 0, .int .i64 0, .string ⟨#[]⟩, .bool false] rfl rfl 39 _ R1.out (by kernel_rfl) rfl (by simp [Value.oneCell']) ?_)
    exact row_ret2 (r := w.heap.size + 1) (cs := #[.int .i64 0, .int .i64 0, .int .i64 0, .int .i64 0, .int .i64 0, .int .i64 0, .int .i64 0, .int .i64 0, .int .i64 0, .string ⟨#[]⟩, .bool false]) rfl rfl rfl (setRow_heap _ _ _ _ _ _ R1.out) Tryz.underlying39 rfl (by kernel_rfl) rfl ⟨by rw [h1.out (by first | assumption | rfl | trivial)]; rfl, below_setRow K1.out (by omega) _⟩
  | true =>
    obtain ⟨⟨a0, a1, a2, a3, a4, a5, a6, a7, a8, a9, a10, a11, a12, a13, a14, a15, a16, a17⟩, _⟩ := blk18 Q1.out
    go_wp2_with fail
    clear a0 a1 a2 a3 a4 a5 a6 a7 a8 a9 a10 a11 a12 a13 a14 a15 a16 a17
    refine (cU.out _).mono ?_
    rintro e w2 ⟨rfl, hb⟩
    have Q2 := Lib.hid (blk_on hb Q1.out)
    have R2 := Lib.hid (blk_on hb R1.out)
    have K2 := Lib.hid (K1.out.trans (hb.mono K1.out.size))
    clear hb Q1 R1 K1
    obtain ⟨V3, hV3⟩ : ∃ V, w2.alloc (.cells #[.int .i64 0, .int .i64 0, .int .i64 0, .int .i64 0, .int .i64 0, .int .i64 0, .int .i64 0, .int .i64 0, .int .i64 0, .string ⟨#[]⟩, .bool false] 39) = V := ⟨_, rfl⟩
    have ltV3Q : w.heap.size < w2.heap.size := blk_in Q2.out
    have ltV3R : w.heap.size + 1 < w2.heap.size := blk_in R2.out
    have Q3 : Hid (V3.heap[w.heap.size]? = some (.cells #[.int .i64 d, .bool ag, .int .i64 xu, .int .i64 xs, .int .i64 xh, .int .i64 xa, .int .i64 xn, .string xt, .bool xp, .int .i64 g, .int .i64 yu, .int .i64 ys, .int .i64 yh, .int .i64 ya, .int .i64 yn, .string yt, .bool yp, .bool ea] 32)) := by rw [← hV3]; exact alloc_blk Q2.out
    have R3 : Hid (V3.heap[w.heap.size + 1]? = some (.cells #[.int .i64 0, .int .i64 0, .int .i64 0, .int .i64 0, .int .i64 0, .int .i64 0, .int .i64 0, .int .i64 0, .int .i64 0, .string ⟨#[]⟩, .bool false] 39)) := by rw [← hV3]; exact alloc_blk R2.out
    have hb : Below w2.heap.size w2 V3 := by rw [← hV3]; exact (Below.refl _ w2).alloc (Nat.le_refl _) _
    have K3 := Lib.hid (K2.out.trans (hb.mono K2.out.size))
    have T3 : Hid (V3.heap[w2.heap.size]? = some (.cells #[.int .i64 0, .int .i64 0, .int .i64 0, .int .i64 0, .int .i64 0, .int .i64 0, .int .i64 0, .int .i64 0, .int .i64 0, .string ⟨#[]⟩, .bool false] 39)) := by rw [← hV3]; exact heap1 w2 _
    have lbV3 : w.heap.size ≤ w2.heap.size := K2.out.size
    clear hb Q2 R2 K2
    cases z with
    | false =>
      have Q4 : Hid ((V3.setRow w2.heap.size #[.int .i64 ts, .int .i64 tb, .int .i64 tl, .int .i64 tm, .int .i64 pu, .int .i64 ps, .int .i64 ph, .int .i64 pa, .int .i64 pn, .string pt, .bool pp]).heap[w.heap.size]? = some (.cells #[.int .i64 d, .bool ag, .int .i64 xu, .int .i64 xs, .int .i64 xh, .int .i64 xa, .int .i64 xn, .string xt, .bool xp, .int .i64 g, .int .i64 yu, .int .i64 ys, .int .i64 yh, .int .i64 ya, .int .i64 yn, .string yt, .bool yp, .bool ea] 32)) := (setRow_other _ _ _ _ (by omega)).trans Q3.out
      have R4 : Hid ((V3.setRow w2.heap.size #[.int .i64 ts, .int .i64 tb, .int .i64 tl, .int .i64 tm, .int .i64 pu, .int .i64 ps, .int .i64 ph, .int .i64 pa, .int .i64 pn, .string pt, .bool pp]).heap[w.heap.size + 1]? = some (.cells #[.int .i64 0, .int .i64 0, .int .i64 0, .int .i64 0, .int .i64 0, .int .i64 0, .int .i64 0, .int .i64 0, .int .i64 0, .string ⟨#[]⟩, .bool false] 39)) := (setRow_other _ _ _ _ (by omega)).trans R3.out
      have T4 : Hid ((V3.setRow w2.heap.size #[.int .i64 ts, .int .i64 tb, .int .i64 tl, .int .i64 tm, .int .i64 pu, .int .i64 ps, .int .i64 ph, .int .i64 pa, .int .i64 pn, .string pt, .bool pp]).heap[w2.heap.size]? = some (.cells #[.int .i64 ts, .int .i64 tb, .int .i64 tl, .int .i64 tm, .int .i64 pu, .int .i64 ps, .int .i64 ph, .int .i64 pa, .int .i64 pn, .string pt, .bool pp] 39)) := setRow_heap _ _ _ _ _ _ T3.out
      have K4 : Hid (Below w.heap.size w (V3.setRow w2.heap.size #[.int .i64 ts, .int .i64 tb, .int .i64 tl, .int .i64 tm, .int .i64 pu, .int .i64 ps, .int .i64 ph, .int .i64 pa, .int .i64 pn, .string pt, .bool pp])) := below_setRow K3.out (by omega) _
      go_wp2_with (first | (refine wpList_store_row rfl 39 _ _ rfl (w2.heap.size) #[.int .i64 ts, .int .i64 tb, .int .i64 tl, .int .i64 tm, .int .i64 pu, .int .i64 ps, .int .i64 ph, .int .i64 pa, .int .i64 pn, .string pt, .bool pp] rfl rfl 39 _ T3.out (by kernel_rfl) rfl (by simp [Value.oneCell']) ?_) | (refine wpList_store_row rfl 39 _ _ rfl (w.heap.size + 1) #[.int .i64 0, .int .i64 0, .int .i64 0, .int .i64 0, .int .i64 0, .int .i64 0, .int .i64 0, .int .i64 0, .int .i64 0, .string ⟨#[]⟩, .bool false] rfl rfl 39 _ R4.out (by kernel_rfl) rfl (by simp [Value.oneCell']) ?_))
      exact row_ret2 (r := w.heap.size + 1) (cs := #[.int .i64 0, .int .i64 0, .int .i64 0, .int .i64 0, .int .i64 0, .int .i64 0, .int .i64 0, .int .i64 0, .int .i64 0, .string ⟨#[]⟩, .bool false]) rfl rfl rfl (setRow_heap _ _ _ _ _ _ R4.out) Tryz.underlying39 rfl (by kernel_rfl) rfl ⟨by rw [h2.out (by first | assumption | rfl | trivial) (by first | assumption | rfl | trivial)]; rfl, below_setRow K4.out (by omega) _⟩
    | true =>
      have Q4 : Hid ((V3.setRow w2.heap.size #[.int .i64 ts, .int .i64 tb, .int .i64 tl, .int .i64 tm, .int .i64 pu, .int .i64 ps, .int .i64 ph, .int .i64 pa, .int .i64 pn, .string pt, .bool pp]).heap[w.heap.size]? = some (.cells #[.int .i64 d, .bool ag, .int .i64 xu, .int .i64 xs, .int .i64 xh, .int .i64 xa, .int .i64 xn, .string xt, .bool xp, .int .i64 g, .int .i64 yu, .int .i64 ys, .int .i64 yh, .int .i64 ya, .int .i64 yn, .string yt, .bool yp, .bool ea] 32)) := (setRow_other _ _ _ _ (by omega)).trans Q3.out
      have R4 : Hid ((V3.setRow w2.heap.size #[.int .i64 ts, .int .i64 tb, .int .i64 tl, .int .i64 tm, .int .i64 pu, .int .i64 ps, .int .i64 ph, .int .i64 pa, .int .i64 pn, .string pt, .bool pp]).heap[w.heap.size + 1]? = some (.cells #[.int .i64 0, .int .i64 0, .int .i64 0, .int .i64 0, .int .i64 0, .int .i64 0, .int .i64 0, .int .i64 0, .int .i64 0, .string ⟨#[]⟩, .bool false] 39)) := (setRow_other _ _ _ _ (by omega)).trans R3.out
      have T4 : Hid ((V3.setRow w2.heap.size #[.int .i64 ts, .int .i64 tb, .int .i64 tl, .int .i64 tm, .int .i64 pu, .int .i64 ps, .int .i64 ph, .int .i64 pa, .int .i64 pn, .string pt, .bool pp]).heap[w2.heap.size]? = some (.cells #[.int .i64 ts, .int .i64 tb, .int .i64 tl, .int .i64 tm, .int .i64 pu, .int .i64 ps, .int .i64 ph, .int .i64 pa, .int .i64 pn, .string pt, .bool pp] 39)) := setRow_heap _ _ _ _ _ _ T3.out
      have K4 : Hid (Below w.heap.size w (V3.setRow w2.heap.size #[.int .i64 ts, .int .i64 tb, .int .i64 tl, .int .i64 tm, .int .i64 pu, .int .i64 ps, .int .i64 ph, .int .i64 pa, .int .i64 pn, .string pt, .bool pp])) := below_setRow K3.out (by omega) _
      go_wp2_with (first | (refine wpList_store_row rfl 39 _ _ rfl (w2.heap.size) #[.int .i64 ts, .int .i64 tb, .int .i64 tl, .int .i64 tm, .int .i64 pu, .int .i64 ps, .int .i64 ph, .int .i64 pa, .int .i64 pn, .string pt, .bool pp] rfl rfl 39 _ T3.out (by kernel_rfl) rfl (by simp [Value.oneCell']) ?_) | (refine wpList_load_wanted rfl 39 _ rfl (w2.heap.size) rfl 39 _ (0, 0) _ T4.out Tryz.underlying39 rfl (by kernel_rfl) ?_))
      clear hV3 Q3 R3 T3 K3
      generalize V3.setRow w2.heap.size #[.int .i64 ts, .int .i64 tb, .int .i64 tl, .int .i64 tm, .int .i64 pu, .int .i64 ps, .int .i64 ph, .int .i64 pa, .int .i64 pn, .string pt, .bool pp] = S4 at Q4 R4 T4 K4 ⊢
      refine (cF.out _).mono ?_
      rintro e w5 ⟨rfl, hb⟩
      have Q5 := Lib.hid (blk_on hb Q4.out)
      have R5 := Lib.hid (blk_on hb R4.out)
      have T5 := Lib.hid (blk_on hb T4.out)
      have K5 := Lib.hid (K4.out.trans (hb.mono K4.out.size))
      clear hb Q4 R4 T4 K4
      cases zf with
      | false =>
        go_wp2_with (refine wpList_store_row rfl 39 _ _ rfl (w.heap.size + 1) #[.int .i64 0, .int .i64 0, .int .i64 0, .int .i64 0, .int .i64 0, .int .i64 0, .int .i64 0, .int .i64 0, .int .i64 0, .string ⟨#[]⟩, .bool false] rfl rfl 39 _ R5.out (by kernel_rfl) rfl (by simp [Value.oneCell']) ?_)
        exact row_ret2 (r := w.heap.size + 1) (cs := #[.int .i64 0, .int .i64 0, .int .i64 0, .int .i64 0, .int .i64 0, .int .i64 0, .int .i64 0, .int .i64 0, .int .i64 0, .string ⟨#[]⟩, .bool false]) rfl rfl rfl (setRow_heap _ _ _ _ _ _ R5.out) Tryz.underlying39 rfl (by kernel_rfl) rfl ⟨by rw [h3.out (by first | assumption | rfl | trivial) (by first | assumption | rfl | trivial) (by first | assumption | rfl | trivial)]; rfl, below_setRow K5.out (by omega) _⟩
      | true =>
        obtain ⟨⟨c0, c1, c2, c3, c4, c5, c6, c7, c8, c9, c10⟩, _⟩ := blk11 T5.out
        go_wp2_with (refine wpList_load_wanted rfl 32 _ rfl (w.heap.size) rfl 32 _ (0, 0) _ Q5.out Tryz.underlying32 rfl (by kernel_rfl) ?_)
        clear c0 c1 c2 c3 c4 c5 c6 c7 c8 c9 c10
        refine (cB.out _).mono ?_
        rintro e w6 ⟨rfl, hb⟩
        have Q6 := Lib.hid (blk_on hb Q5.out)
        have R6 := Lib.hid (blk_on hb R5.out)
        have T6 := Lib.hid (blk_on hb T5.out)
        have K6 := Lib.hid (K5.out.trans (hb.mono K5.out.size))
        clear hb Q5 R5 T5 K5
        cases zb with
        | false =>
          go_wp2_with (refine wpList_store_row rfl 39 _ _ rfl (w.heap.size + 1) #[.int .i64 0, .int .i64 0, .int .i64 0, .int .i64 0, .int .i64 0, .int .i64 0, .int .i64 0, .int .i64 0, .int .i64 0, .string ⟨#[]⟩, .bool false] rfl rfl 39 _ R6.out (by kernel_rfl) rfl (by simp [Value.oneCell']) ?_)
          exact row_ret2 (r := w.heap.size + 1) (cs := #[.int .i64 0, .int .i64 0, .int .i64 0, .int .i64 0, .int .i64 0, .int .i64 0, .int .i64 0, .int .i64 0, .int .i64 0, .string ⟨#[]⟩, .bool false]) rfl rfl rfl (setRow_heap _ _ _ _ _ _ R6.out) Tryz.underlying39 rfl (by kernel_rfl) rfl ⟨by rw [h4.out (by first | assumption | rfl | trivial) (by first | assumption | rfl | trivial) (by first | assumption | rfl | trivial) (by first | assumption | rfl | trivial)]; rfl, below_setRow K6.out (by omega) _⟩
        | true =>
          go_wp2_with (first | (refine wpList_store_row rfl 39 _ _ rfl (w.heap.size + 1) #[.int .i64 ts, .int .i64 tb, .int .i64 tl, .int .i64 tm, .int .i64 pu, .int .i64 ps, .int .i64 ph, .int .i64 pa, .int .i64 pn, .string pt, .bool pp] rfl rfl 39 _ R6.out (by kernel_rfl) rfl (by simp [Value.oneCell']) ?_) | (refine wpList_load_row rfl 39 _ rfl (w2.heap.size) rfl 39 _ (0, 0) _ T6.out Tryz.underlying39 rfl (by kernel_rfl) ?_))
          exact row_ret2 (r := w.heap.size + 1) (cs := #[.int .i64 ts, .int .i64 tb, .int .i64 tl, .int .i64 tm, .int .i64 pu, .int .i64 ps, .int .i64 ph, .int .i64 pa, .int .i64 pn, .string pt, .bool pp]) rfl rfl rfl (setRow_heap _ _ _ _ _ _ R6.out) Tryz.underlying39 rfl (by kernel_rfl) rfl ⟨by rw [h5.out (by first | assumption | rfl | trivial) (by first | assumption | rfl | trivial) (by first | assumption | rfl | trivial) (by first | assumption | rfl | trivial)]; rfl, below_setRow K6.out (by omega) _⟩

theorem helOk_g {q : HelV} (h : helOkB q = true) : 0 ≤ q.g ∧ q.g ≤ 100000 := by
  rw [helOkB, Bool.and_eq_true, Bool.and_eq_true, Bool.or_eq_true] at h
  rcases h.2.2 with h1 | h1
  · rw [bareB, Bool.and_eq_true, Bool.and_eq_true, beq_iff_eq] at h1
    omega
  · rw [Bool.and_eq_true, Bool.and_eq_true] at h1
    exact inB_true h1.2.2
set_option maxHeartbeats 4000000 in
theorem SaidAt_spec (q : HelV) (t : TokV) (w : World) : Calls Tryz.prog 19 #[q.val, t.val] w fun e w' => e = .returned (.int .i64 (saidI q t)) ∧ Below w.heap.size w w' := by
  have hb : Hid (tokOkB t = true → 0 ≤ t.b ∧ t.b ≤ 100000) := fun h => (tok_range h).2.1
  have hg : Hid (helOkB q = true → 0 ≤ q.g ∧ q.g ≤ 100000) := helOk_g
  have cH := Lib.hid fun w' => HelloOk_spec q w'
  have cT := Lib.hid fun w' => TokenOk_spec t w'
  have cI : Hid (∀ w' : World, Calls Tryz.prog 40 #[.int .i64 (t.b + q.g)] w' fun e w'' => e = .returned (.bool (inB (t.b + q.g) 0 100000)) ∧ Below w'.heap.size w' w'') := fun w' => by exact (l6Time_any (t.b + q.g) w').mono fun _ _ ⟨he, hw⟩ => ⟨he, hw ▸ Below.refl _ _⟩
  have HR : Hid (saidI q t = if helOkB q && (tokOkB t && inB (t.b + q.g) 0 100000) then t.b + q.g else -1) := rfl
  rw [HR.out]
  clear HR
  obtain ⟨d, ag, ⟨⟨xu, xs, xh, xa⟩, xn, xt, xp⟩, g, ⟨⟨yu, ys, yh, ya⟩, yn, yt, yp⟩, ea⟩ := q
  obtain ⟨ts, tb, tl, tm, ⟨⟨pu, ps, ph, pa⟩, pn, pt, pp⟩⟩ := t
  dsimp only at cI hb hg ⊢
  generalize helOkB ⟨d, ag, ⟨⟨xu, xs, xh, xa⟩, xn, xt, xp⟩, g, ⟨⟨yu, ys, yh, ya⟩, yn, yt, yp⟩, ea⟩ = zh at cH hg ⊢
  generalize tokOkB ⟨ts, tb, tl, tm, ⟨⟨pu, ps, ph, pa⟩, pn, pt, pp⟩⟩ = zt at cT hb ⊢
  generalize inB (tb + g) 0 100000 = zi at cI ⊢
  have HV : Hid (HelV.val ⟨d, ag, ⟨⟨xu, xs, xh, xa⟩, xn, xt, xp⟩, g, ⟨⟨yu, ys, yh, ya⟩, yn, yt, yp⟩, ea⟩ = .agg #[.int .i64 d, .bool ag, .int .i64 xu, .int .i64 xs, .int .i64 xh, .int .i64 xa, .int .i64 xn, .string xt, .bool xp, .int .i64 g, .int .i64 yu, .int .i64 ys, .int .i64 yh, .int .i64 ya, .int .i64 yn, .string yt, .bool yp, .bool ea]) := rfl
  have HT : Hid (TokV.val ⟨ts, tb, tl, tm, ⟨⟨pu, ps, ph, pa⟩, pn, pt, pp⟩⟩ = .agg #[.int .i64 ts, .int .i64 tb, .int .i64 tl, .int .i64 tm, .int .i64 pu, .int .i64 ps, .int .i64 ph, .int .i64 pa, .int .i64 pn, .string pt, .bool pp]) := rfl
  rw [HV.out] at cH ⊢
  rw [HT.out] at cT ⊢
  clear HV HT
  obtain ⟨W0, hW0⟩ : ∃ W, (w.alloc (.cells #[.int .i64 d, .bool ag, .int .i64 xu, .int .i64 xs, .int .i64 xh, .int .i64 xa, .int .i64 xn, .string xt, .bool xp, .int .i64 g, .int .i64 yu, .int .i64 ys, .int .i64 yh, .int .i64 ya, .int .i64 yn, .string yt, .bool yp, .bool ea] 32)).alloc (.cells #[.int .i64 ts, .int .i64 tb, .int .i64 tl, .int .i64 tm, .int .i64 pu, .int .i64 ps, .int .i64 ph, .int .i64 pa, .int .i64 pn, .string pt, .bool pp] 39) = W := ⟨_, rfl⟩
  have K0 : Hid (Below w.heap.size w W0) := by rw [← hW0]; exact ((Below.refl _ w).alloc (Nat.le_refl _) _).alloc (by simp; try omega) _
  have Q0 : Hid (W0.heap[w.heap.size]? = some (.cells #[.int .i64 d, .bool ag, .int .i64 xu, .int .i64 xs, .int .i64 xh, .int .i64 xa, .int .i64 xn, .string xt, .bool xp, .int .i64 g, .int .i64 yu, .int .i64 ys, .int .i64 yh, .int .i64 ya, .int .i64 yn, .string yt, .bool yp, .bool ea] 32)) := by rw [← hW0]; exact heap2a w _ _
  have T0 : Hid (W0.heap[w.heap.size + 1]? = some (.cells #[.int .i64 ts, .int .i64 tb, .int .i64 tl, .int .i64 tm, .int .i64 pu, .int .i64 ps, .int .i64 ph, .int .i64 pa, .int .i64 pn, .string pt, .bool pp] 39)) := by rw [← hW0]; exact heap2b w _ _
  go_enter Tryz.func19, Tryz.ntmps19
  go_wp2_with (refine wpList_load_row rfl 32 _ rfl (w.heap.size) rfl 32 _ (0, 0) _ Q0.out Tryz.underlying32 rfl (by kernel_rfl) ?_)
  clear hW0
  refine (cH.out _).mono ?_
  rintro e w1 ⟨rfl, hb⟩
  have Q1 := Lib.hid (blk_on hb Q0.out)
  have T1 := Lib.hid (blk_on hb T0.out)
  have K1 := Lib.hid (K0.out.trans (hb.mono K0.out.size))
  clear hb Q0 T0 K0
  cases zh with
  | false =>
    go_wp2
    go_ret
    exact ⟨rfl, K1.out⟩
  | true =>
    go_wp2_with (refine wpList_load_wanted rfl 39 _ rfl (w.heap.size + 1) rfl 39 _ (0, 0) _ T1.out Tryz.underlying39 rfl (by kernel_rfl) ?_)
    refine (cT.out _).mono ?_
    rintro e w2 ⟨rfl, hb⟩
    have Q2 := Lib.hid (blk_on hb Q1.out)
    have T2 := Lib.hid (blk_on hb T1.out)
    have K2 := Lib.hid (K1.out.trans (hb.mono K1.out.size))
    clear hb Q1 T1 K1
    cases zt with
    | false =>
      go_wp2
      go_ret
      exact ⟨rfl, K2.out⟩
    | true =>
      obtain ⟨hb0, hb1⟩ := hb.out (by first | assumption | rfl | trivial)
      obtain ⟨hg0, hg1⟩ := hg.out (by first | assumption | rfl | trivial)
      have ct1 := blk_cell T2.out 1
      have cq9 := blk_cell Q2.out 9
      simp only [List.getElem?_toArray, List.getElem?_cons_succ, List.getElem?_cons_zero] at ct1 cq9
      go_wp2_with fail
      clear ct1 cq9
      refine (cI.out _).mono ?_
      rintro e w3 ⟨rfl, hb⟩
      have Q3 := Lib.hid (blk_on hb Q2.out)
      have T3 := Lib.hid (blk_on hb T2.out)
      have K3 := Lib.hid (K2.out.trans (hb.mono K2.out.size))
      clear hb Q2 T2 K2
      cases zi with
      | false =>
        go_wp2
        go_ret
        exact ⟨rfl, K3.out⟩
      | true =>
        have ct1 := blk_cell T3.out 1
        have cq9 := blk_cell Q3.out 9
        simp only [List.getElem?_toArray, List.getElem?_cons_succ, List.getElem?_cons_zero] at ct1 cq9
        go_wp2
        go_ret
        exact ⟨rfl, K3.out⟩

set_option maxHeartbeats 4000000 in
theorem SecretOf_spec (inn : Int) (q : HelV) (now pick : Int) (w : World) : Calls Tryz.prog 14 #[.int .i64 inn, q.val, .int .i64 now, .int .i64 pick] w fun e w' => e = .returned (.int .i64 (secretI inn q now pick)) ∧ Below w.heap.size w w' := by
  have h0 : Hid ((tokenInO inn q now).isSome = false → secretI inn q now pick = 0) := fun h => by
    have e : tokenInO inn q now = none := by simpa using h
    rw [secretI, e]
  have h1 : Hid ((tokenInO inn q now).isSome = true → ¬ (pick = 2 ∨ pick = 3) → secretI inn q now pick = 0) := fun h hp => by
    obtain ⟨t, e⟩ := Option.isSome_iff_exists.1 h
    rw [secretI, e]
    exact if_neg hp
  have h2 : Hid ((tokenInO inn q now).isSome = true → (pick = 2 ∨ pick = 3) → secretI inn q now pick = ((tokenInO inn q now).getD .zero).s) := fun h hp => by
    obtain ⟨t, e⟩ := Option.isSome_iff_exists.1 h
    rw [secretI, e]
    exact if_pos hp
  have cI := Lib.hid fun w' => TokenIn_spec inn q now w'
  generalize secretI inn q now pick = out at h0 h1 h2 ⊢
  generalize (tokenInO inn q now).isSome = z at cI h0 h1 h2
  generalize (tokenInO inn q now).getD .zero = t at cI h2
  obtain ⟨d, ag, ⟨⟨xu, xs, xh, xa⟩, xn, xt, xp⟩, g, ⟨⟨yu, ys, yh, ya⟩, yn, yt, yp⟩, ea⟩ := q
  obtain ⟨ts, tb, tl, tm, ⟨⟨pu, ps, ph, pa⟩, pn, pt, pp⟩⟩ := t
  have HV : Hid (HelV.val ⟨d, ag, ⟨⟨xu, xs, xh, xa⟩, xn, xt, xp⟩, g, ⟨⟨yu, ys, yh, ya⟩, yn, yt, yp⟩, ea⟩ = .agg #[.int .i64 d, .bool ag, .int .i64 xu, .int .i64 xs, .int .i64 xh, .int .i64 xa, .int .i64 xn, .string xt, .bool xp, .int .i64 g, .int .i64 yu, .int .i64 ys, .int .i64 yh, .int .i64 ya, .int .i64 yn, .string yt, .bool yp, .bool ea]) := rfl
  have HT : Hid (TokV.val ⟨ts, tb, tl, tm, ⟨⟨pu, ps, ph, pa⟩, pn, pt, pp⟩⟩ = .agg #[.int .i64 ts, .int .i64 tb, .int .i64 tl, .int .i64 tm, .int .i64 pu, .int .i64 ps, .int .i64 ph, .int .i64 pa, .int .i64 pn, .string pt, .bool pp]) := rfl
  dsimp only at h2
  rw [HV.out] at cI ⊢
  rw [HT.out] at cI
  clear HV HT
  obtain ⟨W0, hW0⟩ : ∃ W, w.alloc (.cells #[.int .i64 d, .bool ag, .int .i64 xu, .int .i64 xs, .int .i64 xh, .int .i64 xa, .int .i64 xn, .string xt, .bool xp, .int .i64 g, .int .i64 yu, .int .i64 ys, .int .i64 yh, .int .i64 ya, .int .i64 yn, .string yt, .bool yp, .bool ea] 32) = W := ⟨_, rfl⟩
  have K0 : Hid (Below w.heap.size w W0) := by rw [← hW0]; exact (Below.refl _ w).alloc (Nat.le_refl _) _
  have Q0 : Hid (W0.heap[w.heap.size]? = some (.cells #[.int .i64 d, .bool ag, .int .i64 xu, .int .i64 xs, .int .i64 xh, .int .i64 xa, .int .i64 xn, .string xt, .bool xp, .int .i64 g, .int .i64 yu, .int .i64 ys, .int .i64 yh, .int .i64 ya, .int .i64 yn, .string yt, .bool yp, .bool ea] 32)) := by rw [← hW0]; exact heap1 w _
  go_enter Tryz.func14, Tryz.ntmps14
  go_wp2_with (refine wpList_load_row rfl 32 _ rfl (w.heap.size) rfl 32 _ (0, 0) _ Q0.out Tryz.underlying32 rfl (by kernel_rfl) ?_)
  clear hW0
  refine (cI.out _).mono ?_
  rintro e w1 ⟨rfl, hb⟩
  have Q1 := Lib.hid (blk_on hb Q0.out)
  have K1 := Lib.hid (K0.out.trans (hb.mono K0.out.size))
  clear hb Q0 K0
  obtain ⟨V2, hV2⟩ : ∃ V, w1.alloc (.cells #[.int .i64 0, .int .i64 0, .int .i64 0, .int .i64 0, .int .i64 0, .int .i64 0, .int .i64 0, .int .i64 0, .int .i64 0, .string ⟨#[]⟩, .bool false] 39) = V := ⟨_, rfl⟩
  have ltV2Q : w.heap.size < w1.heap.size := blk_in Q1.out
  have Q2 : Hid (V2.heap[w.heap.size]? = some (.cells #[.int .i64 d, .bool ag, .int .i64 xu, .int .i64 xs, .int .i64 xh, .int .i64 xa, .int .i64 xn, .string xt, .bool xp, .int .i64 g, .int .i64 yu, .int .i64 ys, .int .i64 yh, .int .i64 ya, .int .i64 yn, .string yt, .bool yp, .bool ea] 32)) := by rw [← hV2]; exact alloc_blk Q1.out
  have hb : Below w1.heap.size w1 V2 := by rw [← hV2]; exact (Below.refl _ w1).alloc (Nat.le_refl _) _
  have K2 := Lib.hid (K1.out.trans (hb.mono K1.out.size))
  have T2 : Hid (V2.heap[w1.heap.size]? = some (.cells #[.int .i64 0, .int .i64 0, .int .i64 0, .int .i64 0, .int .i64 0, .int .i64 0, .int .i64 0, .int .i64 0, .int .i64 0, .string ⟨#[]⟩, .bool false] 39)) := by rw [← hV2]; exact heap1 w1 _
  have lbV2 : w.heap.size ≤ w1.heap.size := K1.out.size
  clear hb Q1 K1
  have Q3 : Hid ((V2.setRow w1.heap.size #[.int .i64 ts, .int .i64 tb, .int .i64 tl, .int .i64 tm, .int .i64 pu, .int .i64 ps, .int .i64 ph, .int .i64 pa, .int .i64 pn, .string pt, .bool pp]).heap[w.heap.size]? = some (.cells #[.int .i64 d, .bool ag, .int .i64 xu, .int .i64 xs, .int .i64 xh, .int .i64 xa, .int .i64 xn, .string xt, .bool xp, .int .i64 g, .int .i64 yu, .int .i64 ys, .int .i64 yh, .int .i64 ya, .int .i64 yn, .string yt, .bool yp, .bool ea] 32)) := (setRow_other _ _ _ _ (by omega)).trans Q2.out
  have T3 : Hid ((V2.setRow w1.heap.size #[.int .i64 ts, .int .i64 tb, .int .i64 tl, .int .i64 tm, .int .i64 pu, .int .i64 ps, .int .i64 ph, .int .i64 pa, .int .i64 pn, .string pt, .bool pp]).heap[w1.heap.size]? = some (.cells #[.int .i64 ts, .int .i64 tb, .int .i64 tl, .int .i64 tm, .int .i64 pu, .int .i64 ps, .int .i64 ph, .int .i64 pa, .int .i64 pn, .string pt, .bool pp] 39)) := setRow_heap _ _ _ _ _ _ T2.out
  have K3 : Hid (Below w.heap.size w (V2.setRow w1.heap.size #[.int .i64 ts, .int .i64 tb, .int .i64 tl, .int .i64 tm, .int .i64 pu, .int .i64 ps, .int .i64 ph, .int .i64 pa, .int .i64 pn, .string pt, .bool pp])) := below_setRow K2.out (by omega) _
  cases z with
  | false =>
    have HE := Lib.hid (h0.out (by first | assumption | rfl | trivial))
    go_wp2_with (refine wpList_store_row rfl 39 _ _ rfl (w1.heap.size) #[.int .i64 ts, .int .i64 tb, .int .i64 tl, .int .i64 tm, .int .i64 pu, .int .i64 ps, .int .i64 ph, .int .i64 pa, .int .i64 pn, .string pt, .bool pp] rfl rfl 39 _ T2.out (by kernel_rfl) rfl (by simp [Value.oneCell']) ?_)
    go_ret
    exact ⟨by rw [HE.out]; rfl, K3.out⟩
  | true =>
    by_cases hp2 : pick = 2
    ·
      have HE := Lib.hid (h2.out (by first | assumption | rfl | trivial) (.inl hp2))
      subst hp2
      have ct0 := blk_cell T3.out 0
      simp only [List.getElem?_toArray, List.getElem?_cons_zero] at ct0
      go_wp2_with (refine wpList_store_row rfl 39 _ _ rfl (w1.heap.size) #[.int .i64 ts, .int .i64 tb, .int .i64 tl, .int .i64 tm, .int .i64 pu, .int .i64 ps, .int .i64 ph, .int .i64 pa, .int .i64 pn, .string pt, .bool pp] rfl rfl 39 _ T2.out (by kernel_rfl) rfl (by simp [Value.oneCell']) ?_)
      go_ret
      exact ⟨by rw [HE.out]; rfl, K3.out⟩
    ·
      by_cases hp3 : pick = 3
      ·
        have HE := Lib.hid (h2.out (by first | assumption | rfl | trivial) (.inr hp3))
        subst hp3
        have ct0 := blk_cell T3.out 0
        simp only [List.getElem?_toArray, List.getElem?_cons_zero] at ct0
        go_wp2_with (refine wpList_store_row rfl 39 _ _ rfl (w1.heap.size) #[.int .i64 ts, .int .i64 tb, .int .i64 tl, .int .i64 tm, .int .i64 pu, .int .i64 ps, .int .i64 ph, .int .i64 pa, .int .i64 pn, .string pt, .bool pp] rfl rfl 39 _ T2.out (by kernel_rfl) rfl (by simp [Value.oneCell']) ?_)
        go_ret
        exact ⟨by rw [HE.out]; rfl, K3.out⟩
      ·
        have HE := Lib.hid (h1.out (by first | assumption | rfl | trivial) (fun h => h.elim hp2 hp3))
        have hp2' : (pick == 2) = false := by simpa using hp2
        have hp3' : (pick == 3) = false := by simpa using hp3
        have hp2n : (pick != 2) = true := by simpa using hp2
        have hp3n : (pick != 3) = true := by simpa using hp3
        go_wp2_with (refine wpList_store_row rfl 39 _ _ rfl (w1.heap.size) #[.int .i64 ts, .int .i64 tb, .int .i64 tl, .int .i64 tm, .int .i64 pu, .int .i64 ps, .int .i64 ph, .int .i64 pa, .int .i64 pn, .string pt, .bool pp] rfl rfl 39 _ T2.out (by kernel_rfl) rfl (by simp [Value.oneCell']) ?_)
        go_ret
        exact ⟨by rw [HE.out]; rfl, K3.out⟩

end Go.Proofs.YtoffdlokndngeaaGreatDoor.Tx

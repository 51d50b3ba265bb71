/-
  What the functions of chapter 9 of the model answer that ask for no token, and what toHello, szHello and eqHello of the laws do. Condition: a box's text has at most 2^63 - 1 bytes; an age is an int64.
-/
import Derived.Deep.DeepCutAuto
import Derived.Laws.CopyOwn
import Derived.Test.YtoffdlokndngeaaGreatDoorBox
import Derived.Test.YtoffdlokndngeaaGreatDoorTime
import Derived.Test.YtoffdlokndngeaaGreatDoorHello0
namespace Go.Proofs.YtoffdlokndngeaaGreatDoor.Tx
open Go.RowKit

theorem blk18 {w : World} {g : Nat} {v0 v1 v2 v3 v4 v5 v6 v7 v8 v9 v10 v11 v12 v13 v14 v15 v16 v17 : Value} {t : TypeId} (h : w.heap[g]? = some (.cells #[v0, v1, v2, v3, v4, v5, v6, v7, v8, v9, v10, v11, v12, v13, v14, v15, v16, v17] t (0, 0))) :
    (w.cell? ⟨g, 0, none⟩ = some v0 ∧ w.cell? ⟨g, 1, none⟩ = some v1 ∧ w.cell? ⟨g, 2, none⟩ = some v2 ∧ w.cell? ⟨g, 3, none⟩ = some v3 ∧ w.cell? ⟨g, 4, none⟩ = some v4 ∧ w.cell? ⟨g, 5, none⟩ = some v5 ∧ w.cell? ⟨g, 6, none⟩ = some v6 ∧ w.cell? ⟨g, 7, none⟩ = some v7 ∧ w.cell? ⟨g, 8, none⟩ = some v8 ∧ w.cell? ⟨g, 9, none⟩ = some v9 ∧ w.cell? ⟨g, 10, none⟩ = some v10 ∧ w.cell? ⟨g, 11, none⟩ = some v11 ∧ w.cell? ⟨g, 12, none⟩ = some v12 ∧ w.cell? ⟨g, 13, none⟩ = some v13 ∧ w.cell? ⟨g, 14, none⟩ = some v14 ∧ w.cell? ⟨g, 15, none⟩ = some v15 ∧ w.cell? ⟨g, 16, none⟩ = some v16 ∧ w.cell? ⟨g, 17, none⟩ = some v17) ∧
    (w.frozen? ⟨g, 0, none⟩ = false ∧ w.frozen? ⟨g, 1, none⟩ = false ∧ w.frozen? ⟨g, 2, none⟩ = false ∧ w.frozen? ⟨g, 3, none⟩ = false ∧ w.frozen? ⟨g, 4, none⟩ = false ∧ w.frozen? ⟨g, 5, none⟩ = false ∧ w.frozen? ⟨g, 6, none⟩ = false ∧ w.frozen? ⟨g, 7, none⟩ = false ∧ w.frozen? ⟨g, 8, none⟩ = false ∧ w.frozen? ⟨g, 9, none⟩ = false ∧ w.frozen? ⟨g, 10, none⟩ = false ∧ w.frozen? ⟨g, 11, none⟩ = false ∧ w.frozen? ⟨g, 12, none⟩ = false ∧ w.frozen? ⟨g, 13, none⟩ = false ∧ w.frozen? ⟨g, 14, none⟩ = false ∧ w.frozen? ⟨g, 15, none⟩ = false ∧ w.frozen? ⟨g, 16, none⟩ = false ∧ w.frozen? ⟨g, 17, none⟩ = false) :=
  ⟨⟨blk_cell h 0, blk_cell h 1, blk_cell h 2, blk_cell h 3, blk_cell h 4, blk_cell h 5, blk_cell h 6, blk_cell h 7, blk_cell h 8, blk_cell h 9, blk_cell h 10, blk_cell h 11, blk_cell h 12, blk_cell h 13, blk_cell h 14, blk_cell h 15, blk_cell h 16, blk_cell h 17⟩, blk_frozen h 0, blk_frozen h 1, blk_frozen h 2, blk_frozen h 3, blk_frozen h 4, blk_frozen h 5, blk_frozen h 6, blk_frozen h 7, blk_frozen h 8, blk_frozen h 9, blk_frozen h 10, blk_frozen h 11, blk_frozen h 12, blk_frozen h 13, blk_frozen h 14, blk_frozen h 15, blk_frozen h 16, blk_frozen h 17⟩

theorem setAll_size {g : Nat} : ∀ (vs : List Value) (k : Nat) (w : World), (setAll w g k vs).heap.size = w.heap.size
  | [], _, _ => rfl
  | v :: r, k, w => (setAll_size r (k + 1) _).trans (by simp [World.setCell])

theorem blk_cell_on {w w1 : World} {p : Addr} {v : Value} (b : Below w.heap.size w w1) (h : w.cell? p = some v) : w1.cell? p = some v := (b.cell (World.block_lt_of_cell? _ _ h)).trans h

set_option maxHeartbeats 8000000 in
theorem toHello_any (q : HelV) (w : World) : Calls Tryz.prog 22 #[q.val] w fun e w' => e = .returned q.val ∧ Below w.heap.size w w' := by
  obtain ⟨d, ag, ⟨⟨xu, xs, xh, xa⟩, xn, xt, xp⟩, g, ⟨⟨yu, ys, yh, ya⟩, yn, yt, yp⟩, ea⟩ := q
  have HV : Hid (HelV.val ⟨d, ag, ⟨⟨xu, xs, xh, xa⟩, xn, xt, xp⟩, g, ⟨⟨yu, ys, yh, ya⟩, yn, yt, yp⟩, ea⟩ = .agg #[.int .i64 d, .bool ag, .int .i64 xu, .int .i64 xs, .int .i64 xh, .int .i64 xa, .int .i64 xn, .string xt, .bool xp, .int .i64 g, .int .i64 yu, .int .i64 ys, .int .i64 yh, .int .i64 ya, .int .i64 yn, .string yt, .bool yp, .bool ea]) := rfl
  rw [HV.out]
  go_enter Tryz.func22, Tryz.ntmps22
  go_wp2_with fail
  refine (toBox_any ⟨⟨xu, xs, xh, xa⟩, xn, xt, xp⟩ _).mono ?_
  rintro e w1 ⟨rfl, hb⟩
  have hx := blk_on hb (heap3a w _ _ _)
  have hr := blk_on hb (heap3b w _ _ _)
  have ho := blk_on hb (heap3c w _ _ _)
  have HX := Lib.hid hx
  have HR := Lib.hid hr
  have HO := Lib.hid ho
  have HB := Lib.hid (below_new3 hb)
  obtain ⟨⟨a0, a1, a2, a3, a4, a5, a6, a7, a8, a9, a10, a11, a12, a13, a14, a15, a16, a17⟩, _⟩ := blk18 hx
  obtain ⟨⟨c0, c1, c2, c3, c4, c5, c6, c7, c8, c9, c10, c11, c12, c13, c14, c15, c16, c17⟩, q0, q1, q2, q3, q4, q5, q6, q7, q8, q9, q10, q11, q12, q13, q14, q15, q16, q17⟩ := blk18 ho
  clear hb hx hr ho
  have HW : Hid (BoxV.val ⟨⟨xu, xs, xh, xa⟩, xn, xt, xp⟩ = .agg #[.int .i64 xu, .int .i64 xs, .int .i64 xh, .int .i64 xa, .int .i64 xn, .string xt, .bool xp]) := rfl
  rw [HW.out]
  go_wp2_with fail
  clear a0 a1 a2 a3 a4 a5 a6 a7 a8 a9 a10 a11 a12 a13 a14 a15 a16 a17 c0 c1 c2 c3 c4 c5 c6 c7 c8 c9 c10 c11 c12 c13 c14 c15 c16 c17 q0 q1 q2 q3 q4 q5 q6 q7 q8 q9 q10 q11 q12 q13 q14 q15 q16 q17
  refine (toBox_any ⟨⟨yu, ys, yh, ya⟩, yn, yt, yp⟩ _).mono ?_
  rintro e w2 ⟨rfl, hb⟩
  have hb' : Below (setAll w1 (w.heap.size + 1 + 1) 2 [.int .i64 xu, .int .i64 xs, .int .i64 xh, .int .i64 xa, .int .i64 xn, .string xt, .bool xp, .int .i64 g]).heap.size (setAll w1 (w.heap.size + 1 + 1) 2 [.int .i64 xu, .int .i64 xs, .int .i64 xh, .int .i64 xa, .int .i64 xn, .string xt, .bool xp, .int .i64 g]) w2 := hb
  clear hb
  have hx := blk_on hb' (setAll_away (by omega) _ _ HX.out)
  have hr := blk_on hb' (setAll_away (by omega) _ _ HR.out)
  have ho : w2.heap[w.heap.size + 1 + 1]? = some (.cells #[.int .i64 d, .bool ag, .int .i64 xu, .int .i64 xs, .int .i64 xh, .int .i64 xa, .int .i64 xn, .string xt, .bool xp, .int .i64 g, .int .i64 0, .int .i64 0, .int .i64 0, .int .i64 0, .int .i64 0, .string ⟨#[]⟩, .bool false, .bool false] 32) := by
    refine blk_on hb' ((setAll_blk _ _ HO.out).trans ?_)
    refine congrArg (fun z => some (Obj.cells z 32 (0, 0))) (Array.toList_inj.1 ?_)
    rw [overA_toList _ _ _ (by simp)]
    rfl
  have HB2 := Lib.hid ((setAll_below (g := w.heap.size + 1 + 1) (by omega) [.int .i64 xu, .int .i64 xs, .int .i64 xh, .int .i64 xa, .int .i64 xn, .string xt, .bool xp, .int .i64 g] 2 HB.out).trans (hb'.mono (by rw [setAll_size]; exact HB.out.size)))
  have HR2 := Lib.hid hr
  clear HX HR HO HB hb'
  have HO2 := Lib.hid ho
  obtain ⟨⟨a0, a1, a2, a3, a4, a5, a6, a7, a8, a9, a10, a11, a12, a13, a14, a15, a16, a17⟩, _⟩ := blk18 hx
  obtain ⟨⟨c0, c1, c2, c3, c4, c5, c6, c7, c8, c9, c10, c11, c12, c13, c14, c15, c16, c17⟩, q0, q1, q2, q3, q4, q5, q6, q7, q8, q9, q10, q11, q12, q13, q14, q15, q16, q17⟩ := blk18 ho
  clear hx hr ho
  have HW2 : Hid (BoxV.val ⟨⟨yu, ys, yh, ya⟩, yn, yt, yp⟩ = .agg #[.int .i64 yu, .int .i64 ys, .int .i64 yh, .int .i64 ya, .int .i64 yn, .string yt, .bool yp]) := rfl
  rw [HW2.out]
  go_upto_region 8 with fail
  clear a0 a1 a2 a3 a4 a5 a6 a7 a8 a9 a10 a11 a12 a13 a14 a15 a16 a17 c0 c1 c2 c3 c4 c5 c6 c7 c8 c9 c10 c11 c12 c13 c14 c15 c16 c17 q0 q1 q2 q3 q4 q5 q6 q7 q8 q9 q10 q11 q12 q13 q14 q15 q16 q17
  have hr := setAll_away (g := w.heap.size + 1 + 1) (by omega) [.int .i64 yu, .int .i64 ys, .int .i64 yh, .int .i64 ya, .int .i64 yn, .string yt, .bool yp, .bool ea] 10 HR2.out
  have ho : (setAll w2 (w.heap.size + 1 + 1) 10 [.int .i64 yu, .int .i64 ys, .int .i64 yh, .int .i64 ya, .int .i64 yn, .string yt, .bool yp, .bool ea]).heap[w.heap.size + 1 + 1]? = some (.cells #[.int .i64 d, .bool ag, .int .i64 xu, .int .i64 xs, .int .i64 xh, .int .i64 xa, .int .i64 xn, .string xt, .bool xp, .int .i64 g, .int .i64 yu, .int .i64 ys, .int .i64 yh, .int .i64 ya, .int .i64 yn, .string yt, .bool yp, .bool ea] 32) := by
    refine (setAll_blk _ _ HO2.out).trans ?_
    refine congrArg (fun z => some (Obj.cells z 32 (0, 0))) (Array.toList_inj.1 ?_)
    rw [overA_toList _ _ _ (by simp)]
    rfl
  have HB3 := Lib.hid (setAll_below (g := w.heap.size + 1 + 1) (by omega) [.int .i64 yu, .int .i64 ys, .int .i64 yh, .int .i64 ya, .int .i64 yn, .string yt, .bool yp, .bool ea] 10 HB2.out)
  show Code.wp _ _ _ _ (setAll w2 (w.heap.size + 1 + 1) 10 [.int .i64 yu, .int .i64 ys, .int .i64 yh, .int .i64 ya, .int .i64 yn, .string yt, .bool yp, .bool ea])
  generalize setAll w2 (w.heap.size + 1 + 1) 10 [.int .i64 yu, .int .i64 ys, .int .i64 yh, .int .i64 ya, .int .i64 yn, .string yt, .bool yp, .bool ea] = V at hr ho HB3 ⊢
  clear HR2 HO2 HB2
  refine wp_region_lit ?_
  refine wpList_load_row rfl 32 (.tmp 3) rfl (w.heap.size + 1 + 1) rfl 32 _ (0, 0) _ ho Tryz.underlying32 rfl (by kernel_rfl) ?_
  refine wpList_store_row rfl 32 (.tmp 2) (.tmp 24) rfl (w.heap.size + 1) #[.int .i64 d, .bool ag, .int .i64 xu, .int .i64 xs, .int .i64 xh, .int .i64 xa, .int .i64 xn, .string xt, .bool xp, .int .i64 g, .int .i64 yu, .int .i64 ys, .int .i64 yh, .int .i64 ya, .int .i64 yn, .string yt, .bool yp, .bool ea] rfl rfl 32 _ hr (by kernel_rfl) rfl (by simp [Value.oneCell']) ?_
  have HV3 := Lib.hid (setRow_heap _ _ _ #[.int .i64 d, .bool ag, .int .i64 xu, .int .i64 xs, .int .i64 xh, .int .i64 xa, .int .i64 xn, .string xt, .bool xp, .int .i64 g, .int .i64 yu, .int .i64 ys, .int .i64 yh, .int .i64 ya, .int .i64 yn, .string yt, .bool yp, .bool ea] _ _ hr)
  have HB4 := Lib.hid (below_setRow HB3.out (g := w.heap.size + 1) (by omega) #[.int .i64 d, .bool ag, .int .i64 xu, .int .i64 xs, .int .i64 xh, .int .i64 xa, .int .i64 xn, .string xt, .bool xp, .int .i64 g, .int .i64 yu, .int .i64 ys, .int .i64 yh, .int .i64 ya, .int .i64 yn, .string yt, .bool yp, .bool ea])
  clear hr ho HB3
  generalize V.setRow (w.heap.size + 1) #[.int .i64 d, .bool ag, .int .i64 xu, .int .i64 xs, .int .i64 xh, .int .i64 xa, .int .i64 xn, .string xt, .bool xp, .int .i64 g, .int .i64 yu, .int .i64 ys, .int .i64 yh, .int .i64 ya, .int .i64 yn, .string yt, .bool yp, .bool ea] = V3 at HV3 HB4 ⊢
  go_wp2
  exact row_ret (cs := #[.int .i64 d, .bool ag, .int .i64 xu, .int .i64 xs, .int .i64 xh, .int .i64 xa, .int .i64 xn, .string xt, .bool xp, .int .i64 g, .int .i64 yu, .int .i64 ys, .int .i64 yh, .int .i64 ya, .int .i64 yn, .string yt, .bool yp, .bool ea]) rfl rfl HV3.out Tryz.underlying32 rfl (by kernel_rfl) rfl ⟨rfl, HB4.out⟩

set_option maxHeartbeats 2000000 in
theorem szHello_any (q : HelV) (hx : q.x.t.size ≤ 9223372036854775807) (hy : q.y.t.size ≤ 9223372036854775807) (left : Int) (h0 : 0 ≤ left) (h1 : left ≤ 1048576) (w : World) : Calls Tryz.prog 21 #[q.val, .int .i64 left] w fun e w' => ∃ l, e = .returned (.int .i64 l) ∧ Below w.heap.size w w' := by
  obtain ⟨d, ag, ⟨⟨xu, xs, xh, xa⟩, xn, xt, xp⟩, g, ⟨⟨yu, ys, yh, ya⟩, yn, yt, yp⟩, ea⟩ := q
  have HV : Hid (HelV.val ⟨d, ag, ⟨⟨xu, xs, xh, xa⟩, xn, xt, xp⟩, g, ⟨⟨yu, ys, yh, ya⟩, yn, yt, yp⟩, ea⟩ = .agg #[.int .i64 d, .bool ag, .int .i64 xu, .int .i64 xs, .int .i64 xh, .int .i64 xa, .int .i64 xn, .string xt, .bool xp, .int .i64 g, .int .i64 yu, .int .i64 ys, .int .i64 yh, .int .i64 ya, .int .i64 yn, .string yt, .bool yp, .bool ea]) := rfl
  rw [HV.out]
  dsimp only at hx hy
  go_enter Tryz.func21, Tryz.ntmps21
  go_wp2_with fail
  refine (szBox_any ⟨⟨xu, xs, xh, xa⟩, xn, xt, xp⟩ hx left (by omega) (by omega) _).mono ?_
  rintro e w1 ⟨rfl, hb1⟩
  obtain ⟨⟨a0, a1, a2, a3, a4, a5, a6, a7, a8, a9, a10, a11, a12, a13, a14, a15, a16, a17⟩, _⟩ := blk18 (blk_on hb1 (heap1 w _))
  have HB := Lib.hid (below_new1 hb1)
  clear hb1
  dsimp only
  obtain ⟨l, hl⟩ : ∃ l, szLeft left xt.size = l := ⟨_, rfl⟩
  have hlo : l ≤ 1048576 := by rw [← hl]; unfold szLeft; split <;> omega
  rw [hl]
  clear hl
  by_cases hn : l < 0
  · go_wp2
    go_ret
    exact ⟨_, rfl, HB.out⟩
  · go_wp2_with fail
    refine (szBox_any ⟨⟨yu, ys, yh, ya⟩, yn, yt, yp⟩ hy l (by omega) (by omega) _).mono ?_
    rintro e w2 ⟨rfl, hb2⟩
    have HB2 := Lib.hid (HB.out.trans (hb2.mono HB.out.size))
    clear hb2
    dsimp only
    obtain ⟨m, hm⟩ : ∃ m, szLeft l yt.size = m := ⟨_, rfl⟩
    rw [hm]
    clear hm
    by_cases hn2 : m < 0
    · go_wp2
      go_ret
      first | exact ⟨_, rfl, HB2.out⟩ | exact ⟨⟨_, rfl⟩, HB2.out⟩
    · go_wp2
      go_ret
      first | exact ⟨_, rfl, HB2.out⟩ | exact ⟨⟨_, rfl⟩, HB2.out⟩


set_option maxHeartbeats 4000000 in
theorem l9Bare_any (q : HelV) (w : World) : Calls Tryz.prog 45 #[q.val] w fun e w' => e = .returned (.bool (bareB q)) ∧ Below w.heap.size w w' := by
  obtain ⟨d, ag, ⟨⟨xu, xs, xh, xa⟩, xn, xt, xp⟩, g, ⟨⟨yu, ys, yh, ya⟩, yn, yt, yp⟩, ea⟩ := q
  have HV : Hid (HelV.val ⟨d, ag, ⟨⟨xu, xs, xh, xa⟩, xn, xt, xp⟩, g, ⟨⟨yu, ys, yh, ya⟩, yn, yt, yp⟩, ea⟩ = .agg #[.int .i64 d, .bool ag, .int .i64 xu, .int .i64 xs, .int .i64 xh, .int .i64 xa, .int .i64 xn, .string xt, .bool xp, .int .i64 g, .int .i64 yu, .int .i64 ys, .int .i64 yh, .int .i64 ya, .int .i64 yn, .string yt, .bool yp, .bool ea]) := rfl
  rw [HV.out]
  obtain ⟨W, hW⟩ : ∃ W, w.alloc (.cells #[.int .i64 d, .bool ag, .int .i64 xu, .int .i64 xs, .int .i64 xh, .int .i64 xa, .int .i64 xn, .string xt, .bool xp, .int .i64 g, .int .i64 yu, .int .i64 ys, .int .i64 yh, .int .i64 ya, .int .i64 yn, .string yt, .bool yp, .bool ea] 32) = W := ⟨_, rfl⟩
  have HB0 : Hid (Below w.heap.size w W) := by rw [← hW]; exact (Below.refl _ w).alloc (Nat.le_refl _) _
  obtain ⟨⟨a0, a1, a2, a3, a4, a5, a6, a7, a8, a9, a10, a11, a12, a13, a14, a15, a16, a17⟩, _⟩ := blk18 (show W.heap[w.heap.size]? = some (.cells #[.int .i64 d, .bool ag, .int .i64 xu, .int .i64 xs, .int .i64 xh, .int .i64 xa, .int .i64 xn, .string xt, .bool xp, .int .i64 g, .int .i64 yu, .int .i64 ys, .int .i64 yh, .int .i64 ya, .int .i64 yn, .string yt, .bool yp, .bool ea] 32) by rw [← hW]; exact heap1 w _)
  have hx := eq_box_zero xu xs xh xa xn xt xp
  have hy := eq_box_zero yu ys yh ya yn yt yp
  have HR : Hid (bareB ⟨d, ag, ⟨⟨xu, xs, xh, xa⟩, xn, xt, xp⟩, g, ⟨⟨yu, ys, yh, ya⟩, yn, yt, yp⟩, ea⟩ = (BoxV.isZ ⟨⟨xu, xs, xh, xa⟩, xn, xt, xp⟩ && (g == 0 && (BoxV.isZ ⟨⟨yu, ys, yh, ya⟩, yn, yt, yp⟩ && !ea)))) := rfl
  generalize BoxV.isZ ⟨⟨xu, xs, xh, xa⟩, xn, xt, xp⟩ = zx at hx HR
  generalize BoxV.isZ ⟨⟨yu, ys, yh, ya⟩, yn, yt, yp⟩ = zy at hy HR
  rw [HR.out]
  clear HR
  cases zx <;> cases hg : g == 0 <;> cases zy <;> cases ea
  all_goals
    go_enter Tryz.func45, Tryz.ntmps45
    go_wp2
    go_ret
    exact ⟨rfl, HB0.out⟩

set_option maxHeartbeats 8000000 in
theorem HelloOk_spec (q : HelV) (w : World) : Calls Tryz.prog 39 #[q.val] w fun e w' => e = .returned (.bool (helOkB q)) ∧ Below w.heap.size w w' := by
  obtain ⟨d, ag, ⟨⟨xu, xs, xh, xa⟩, xn, xt, xp⟩, g, ⟨⟨yu, ys, yh, ya⟩, yn, yt, yp⟩, ea⟩ := q
  have HV : Hid (HelV.val ⟨d, ag, ⟨⟨xu, xs, xh, xa⟩, xn, xt, xp⟩, g, ⟨⟨yu, ys, yh, ya⟩, yn, yt, yp⟩, ea⟩ = .agg #[.int .i64 d, .bool ag, .int .i64 xu, .int .i64 xs, .int .i64 xh, .int .i64 xa, .int .i64 xn, .string xt, .bool xp, .int .i64 g, .int .i64 yu, .int .i64 ys, .int .i64 yh, .int .i64 ya, .int .i64 yn, .string yt, .bool yp, .bool ea]) := rfl
  rw [HV.out]
  obtain ⟨W, hW⟩ : ∃ W, w.alloc (.cells #[.int .i64 d, .bool ag, .int .i64 xu, .int .i64 xs, .int .i64 xh, .int .i64 xa, .int .i64 xn, .string xt, .bool xp, .int .i64 g, .int .i64 yu, .int .i64 ys, .int .i64 yh, .int .i64 ya, .int .i64 yn, .string yt, .bool yp, .bool ea] 32) = W := ⟨_, rfl⟩
  have HB0 : Hid (Below w.heap.size w W) := by rw [← hW]; exact (Below.refl _ w).alloc (Nat.le_refl _) _
  have G0 : Hid (W.heap[w.heap.size]? = some (.cells #[.int .i64 d, .bool ag, .int .i64 xu, .int .i64 xs, .int .i64 xh, .int .i64 xa, .int .i64 xn, .string xt, .bool xp, .int .i64 g, .int .i64 yu, .int .i64 ys, .int .i64 yh, .int .i64 ya, .int .i64 yn, .string yt, .bool yp, .bool ea] 32)) := by rw [← hW]; exact heap1 w _
  obtain ⟨⟨a0, a1, a2, a3, a4, a5, a6, a7, a8, a9, a10, a11, a12, a13, a14, a15, a16, a17⟩, _⟩ := blk18 G0.out
  have HR : Hid (helOkB ⟨d, ag, ⟨⟨xu, xs, xh, xa⟩, xn, xt, xp⟩, g, ⟨⟨yu, ys, yh, ya⟩, yn, yt, yp⟩, ea⟩ = (isDrawB d && (!(ag && ea) && (bareB ⟨d, ag, ⟨⟨xu, xs, xh, xa⟩, xn, xt, xp⟩, g, ⟨⟨yu, ys, yh, ya⟩, yn, yt, yp⟩, ea⟩ || (boxOkB ⟨⟨xu, xs, xh, xa⟩, xn, xt, xp⟩ && (boxOkB ⟨⟨yu, ys, yh, ya⟩, yn, yt, yp⟩ && inB g 0 100000)))))) := rfl
  have cZ : Hid (∀ w' : World, Calls Tryz.prog 45 #[.agg #[.int .i64 d, .bool ag, .int .i64 xu, .int .i64 xs, .int .i64 xh, .int .i64 xa, .int .i64 xn, .string xt, .bool xp, .int .i64 g, .int .i64 yu, .int .i64 ys, .int .i64 yh, .int .i64 ya, .int .i64 yn, .string yt, .bool yp, .bool ea]] w' fun e w'' => e = .returned (.bool (bareB ⟨d, ag, ⟨⟨xu, xs, xh, xa⟩, xn, xt, xp⟩, g, ⟨⟨yu, ys, yh, ya⟩, yn, yt, yp⟩, ea⟩)) ∧ Below w'.heap.size w' w'') := fun w' => l9Bare_any ⟨d, ag, ⟨⟨xu, xs, xh, xa⟩, xn, xt, xp⟩, g, ⟨⟨yu, ys, yh, ya⟩, yn, yt, yp⟩, ea⟩ w'
  have cX : Hid (∀ w' : World, Calls Tryz.prog 78 #[.agg #[.int .i64 xu, .int .i64 xs, .int .i64 xh, .int .i64 xa, .int .i64 xn, .string xt, .bool xp]] w' fun e w'' => e = .returned (.bool (boxOkB ⟨⟨xu, xs, xh, xa⟩, xn, xt, xp⟩)) ∧ Below w'.heap.size w' w'') := fun w' => BoxOk_spec ⟨⟨xu, xs, xh, xa⟩, xn, xt, xp⟩ w'
  have cY : Hid (∀ w' : World, Calls Tryz.prog 78 #[.agg #[.int .i64 yu, .int .i64 ys, .int .i64 yh, .int .i64 ya, .int .i64 yn, .string yt, .bool yp]] w' fun e w'' => e = .returned (.bool (boxOkB ⟨⟨yu, ys, yh, ya⟩, yn, yt, yp⟩)) ∧ Below w'.heap.size w' w'') := fun w' => BoxOk_spec ⟨⟨yu, ys, yh, ya⟩, yn, yt, yp⟩ w'
  generalize bareB ⟨d, ag, ⟨⟨xu, xs, xh, xa⟩, xn, xt, xp⟩, g, ⟨⟨yu, ys, yh, ya⟩, yn, yt, yp⟩, ea⟩ = zb at HR cZ
  generalize boxOkB ⟨⟨xu, xs, xh, xa⟩, xn, xt, xp⟩ = zx at HR cX
  generalize boxOkB ⟨⟨yu, ys, yh, ya⟩, yn, yt, yp⟩ = zy at HR cY
  have cT : Hid (∀ w' : World, Calls Tryz.prog 40 #[.int .i64 g] w' fun e w'' => e = .returned (.bool (inB g 0 100000)) ∧ Below w'.heap.size w' w'') := fun w' => (l6Time_any g w').mono fun _ _ ⟨he, hw⟩ => ⟨he, hw ▸ Below.refl _ _⟩
  generalize inB g 0 100000 = zt at HR cT
  have cD : Hid (∀ w' : World, Calls Tryz.prog 37 #[.int .i64 d] w' fun e w'' => e = .returned (.bool (isDrawB d)) ∧ w' = w'') := fun w' => IsDraw_spec d w'
  generalize isDrawB d = zd at HR cD
  rw [HR.out]
  clear HR HV
  go_enter Tryz.func39, Tryz.ntmps39
  go_wp2_with fail
  clear hW
  refine (cD.out _).mono ?_
  rintro e w' ⟨rfl, rfl⟩
  cases zd with
  | false =>
    go_wp2
    go_ret
    exact ⟨rfl, HB0.out⟩
  | true =>
    cases ag with
    | false =>
      go_wp2_with (refine wpList_load_row rfl 32 _ rfl (w.heap.size) rfl 32 _ (0, 0) _ G0.out Tryz.underlying32 rfl (by kernel_rfl) ?_)
      refine (cZ.out _).mono ?_
      rintro e w1 ⟨rfl, hb⟩
      have G1 := Lib.hid (blk_on hb G0.out)
      have HB1 := Lib.hid (HB0.out.trans (hb.mono HB0.out.size))
      clear hb a0 a1 a2 a3 a4 a5 a6 a7 a8 a9 a10 a11 a12 a13 a14 a15 a16 a17
      obtain ⟨⟨a0, a1, a2, a3, a4, a5, a6, a7, a8, a9, a10, a11, a12, a13, a14, a15, a16, a17⟩, _⟩ := blk18 G1.out
      cases zb with
      | true =>
        go_wp2
        go_ret
        exact ⟨rfl, HB1.out⟩
      | false =>
        go_wp2_with fail
        refine (cX.out _).mono ?_
        rintro e w2 ⟨rfl, hb⟩
        have G2 := Lib.hid (blk_on hb G1.out)
        have HB2 := Lib.hid (HB1.out.trans (hb.mono HB1.out.size))
        clear hb a0 a1 a2 a3 a4 a5 a6 a7 a8 a9 a10 a11 a12 a13 a14 a15 a16 a17
        obtain ⟨⟨a0, a1, a2, a3, a4, a5, a6, a7, a8, a9, a10, a11, a12, a13, a14, a15, a16, a17⟩, _⟩ := blk18 G2.out
        cases zx with
        | false =>
          go_wp2
          go_ret
          exact ⟨rfl, HB2.out⟩
        | true =>
          go_wp2_with fail
          refine (cY.out _).mono ?_
          rintro e w3 ⟨rfl, hb⟩
          have G3 := Lib.hid (blk_on hb G2.out)
          have HB3 := Lib.hid (HB2.out.trans (hb.mono HB2.out.size))
          clear hb a0 a1 a2 a3 a4 a5 a6 a7 a8 a9 a10 a11 a12 a13 a14 a15 a16 a17
          obtain ⟨⟨a0, a1, a2, a3, a4, a5, a6, a7, a8, a9, a10, a11, a12, a13, a14, a15, a16, a17⟩, _⟩ := blk18 G3.out
          cases zy with
          | false =>
            go_wp2
            go_ret
            exact ⟨rfl, HB3.out⟩
          | true =>
            go_wp2_with fail
            refine (cT.out _).mono ?_
            rintro e w4 ⟨rfl, hb⟩
            have G4 := Lib.hid (blk_on hb G3.out)
            have HB4 := Lib.hid (HB3.out.trans (hb.mono HB3.out.size))
            clear hb a0 a1 a2 a3 a4 a5 a6 a7 a8 a9 a10 a11 a12 a13 a14 a15 a16 a17
            obtain ⟨⟨a0, a1, a2, a3, a4, a5, a6, a7, a8, a9, a10, a11, a12, a13, a14, a15, a16, a17⟩, _⟩ := blk18 G4.out
            cases zt with
            | false =>
              go_wp2
              go_ret
              exact ⟨rfl, HB4.out⟩
            | true =>
              go_wp2
              go_ret
              exact ⟨rfl, HB4.out⟩
    | true =>
      cases ea with
      | true =>
        go_wp2
        go_ret
        exact ⟨rfl, HB0.out⟩
      | false =>
        go_wp2_with (refine wpList_load_row rfl 32 _ rfl (w.heap.size) rfl 32 _ (0, 0) _ G0.out Tryz.underlying32 rfl (by kernel_rfl) ?_)
        refine (cZ.out _).mono ?_
        rintro e w1 ⟨rfl, hb⟩
        have G1 := Lib.hid (blk_on hb G0.out)
        have HB1 := Lib.hid (HB0.out.trans (hb.mono HB0.out.size))
        clear hb a0 a1 a2 a3 a4 a5 a6 a7 a8 a9 a10 a11 a12 a13 a14 a15 a16 a17
        obtain ⟨⟨a0, a1, a2, a3, a4, a5, a6, a7, a8, a9, a10, a11, a12, a13, a14, a15, a16, a17⟩, _⟩ := blk18 G1.out
        cases zb with
        | true =>
          go_wp2
          go_ret
          exact ⟨rfl, HB1.out⟩
        | false =>
          go_wp2_with fail
          refine (cX.out _).mono ?_
          rintro e w2 ⟨rfl, hb⟩
          have G2 := Lib.hid (blk_on hb G1.out)
          have HB2 := Lib.hid (HB1.out.trans (hb.mono HB1.out.size))
          clear hb a0 a1 a2 a3 a4 a5 a6 a7 a8 a9 a10 a11 a12 a13 a14 a15 a16 a17
          obtain ⟨⟨a0, a1, a2, a3, a4, a5, a6, a7, a8, a9, a10, a11, a12, a13, a14, a15, a16, a17⟩, _⟩ := blk18 G2.out
          cases zx with
          | false =>
            go_wp2
            go_ret
            exact ⟨rfl, HB2.out⟩
          | true =>
            go_wp2_with fail
            refine (cY.out _).mono ?_
            rintro e w3 ⟨rfl, hb⟩
            have G3 := Lib.hid (blk_on hb G2.out)
            have HB3 := Lib.hid (HB2.out.trans (hb.mono HB2.out.size))
            clear hb a0 a1 a2 a3 a4 a5 a6 a7 a8 a9 a10 a11 a12 a13 a14 a15 a16 a17
            obtain ⟨⟨a0, a1, a2, a3, a4, a5, a6, a7, a8, a9, a10, a11, a12, a13, a14, a15, a16, a17⟩, _⟩ := blk18 G3.out
            cases zy with
            | false =>
              go_wp2
              go_ret
              exact ⟨rfl, HB3.out⟩
            | true =>
              go_wp2_with fail
              refine (cT.out _).mono ?_
              rintro e w4 ⟨rfl, hb⟩
              have G4 := Lib.hid (blk_on hb G3.out)
              have HB4 := Lib.hid (HB3.out.trans (hb.mono HB3.out.size))
              clear hb a0 a1 a2 a3 a4 a5 a6 a7 a8 a9 a10 a11 a12 a13 a14 a15 a16 a17
              obtain ⟨⟨a0, a1, a2, a3, a4, a5, a6, a7, a8, a9, a10, a11, a12, a13, a14, a15, a16, a17⟩, _⟩ := blk18 G4.out
              cases zt with
              | false =>
                go_wp2
                go_ret
                exact ⟨rfl, HB4.out⟩
              | true =>
                go_wp2
                go_ret
                exact ⟨rfl, HB4.out⟩

end Go.Proofs.YtoffdlokndngeaaGreatDoor.Tx

/-
  What the small functions of chapter 5 of the program answer (a row with its key embedded: what is promoted). No conditions.
-/
import Derived.Test.YthkgidibonkfbaaImpl4
import Derived.Test.YthkgidibonkfbaaRow
namespace Go.Proofs.Ythkgidibonkfbaa.Tx
open Go.RowKit

theorem isNoKey_any (k : KeyV) (w : World) : Calls Try.prog 68 #[k.val] w fun e w' => e = .returned (.bool (k.same .zero)) ∧ Below w.heap.size w w' := by
  obtain ⟨u, s, h, a⟩ := k
  have HV : Hid (KeyV.val ⟨u, s, h, a⟩ = .agg #[.int .i64 u, .int .i64 s, .int .i64 h, .int .i64 a]) := rfl
  rw [HV.out]
  have hq := eq_agg u s h a 0 0 0 0
  have HB0 : Hid (Below w.heap.size w (w.alloc (.cells #[.int .i64 u, .int .i64 s, .int .i64 h, .int .i64 a] 25))) := (Below.refl _ w).alloc (Nat.le_refl _) _
  obtain ⟨b, hb⟩ : ∃ b, KeyV.same ⟨u, s, h, a⟩ ⟨0, 0, 0, 0⟩ = b := ⟨_, rfl⟩
  rw [hb] at hq
  have HR : Hid (KeyV.same ⟨u, s, h, a⟩ .zero = b) := hb
  clear hb
  go_enter Try.func68, Try.ntmps68
  go_wp2
  go_ret
  exact ⟨by rw [HR.out]; rfl, HB0.out⟩

theorem isRightKey_any (k : KeyV) (w : World) : Calls Try.prog 69 #[k.val] w fun e w' => e = .returned (.bool (keyOkB k)) ∧ Below w.heap.size w w' := by
  obtain ⟨u, s, h, a⟩ := k
  have HV : Hid (KeyV.val ⟨u, s, h, a⟩ = .agg #[.int .i64 u, .int .i64 s, .int .i64 h, .int .i64 a]) := rfl
  rw [HV.out]
  go_enter Try.func69, Try.ntmps69
  go_wp2_with fail
  refine (KeyOk_impl ⟨u, s, h, a⟩ _).mono ?_
  rintro e w1 ⟨rfl, hb⟩
  have L1 := Lib.hid (below_new1 hb)
  clear hb
  go_wp2
  go_ret
  exact ⟨rfl, L1.out⟩

set_option maxHeartbeats 1000000 in
theorem rowRight_any (r : RowV) (w : World) : Calls Try.prog 49 #[r.val] w fun e w' => e = .returned (.bool (rowOkB r)) ∧ Below w.heap.size w w' := by
  obtain ⟨⟨u, s, h, a⟩, no⟩ := r
  have HV : Hid (RowV.val ⟨⟨u, s, h, a⟩, no⟩ = .agg #[.int .i64 u, .int .i64 s, .int .i64 h, .int .i64 a, .int .i64 no]) := rfl
  rw [HV.out]
  go_enter Try.func49, Try.ntmps49
  go_wp2_with fail
  refine (isNoKey_any ⟨u, s, h, a⟩ _).mono ?_
  rintro e w1 ⟨rfl, hb⟩
  have K1 := Lib.hid (blk_on hb (heap1 w _))
  have L1 := Lib.hid (below_new1 hb)
  clear hb
  cases hz : KeyV.same ⟨u, s, h, a⟩ .zero with
  | true =>
    have HR : Hid (rowOkB ⟨⟨u, s, h, a⟩, no⟩ = inB no 0 1000) := by show ((KeyV.same ⟨u, s, h, a⟩ .zero || _) && _) = _; rw [hz]; rfl
    obtain ⟨⟨a0, a1, a2, a3, a4⟩, _⟩ := blk5 K1.out
    go_wp2_with fail
    refine (isNo_any _ _).mono ?_
    rintro e w' ⟨rfl, rfl⟩
    obtain ⟨b, hb⟩ : ∃ b, inB no 0 1000 = b := ⟨_, rfl⟩
    rw [hb]
    have HRb := Lib.hid hb
    clear hb
    go_wp2
    go_ret
    exact ⟨by rw [HR.out, HRb.out]; rfl, L1.out⟩
  | false =>
    have HR : Hid (rowOkB ⟨⟨u, s, h, a⟩, no⟩ = (keyOkB ⟨u, s, h, a⟩ && inB no 0 1000)) := by show ((KeyV.same ⟨u, s, h, a⟩ .zero || _) && _) = _; rw [hz]; rfl
    obtain ⟨⟨a0, a1, a2, a3, a4⟩, _⟩ := blk5 K1.out
    go_wp2_with fail
    clear a0 a1 a2 a3 a4
    refine (isRightKey_any ⟨u, s, h, a⟩ _).mono ?_
    rintro e w2 ⟨rfl, b2⟩
    have K2 := Lib.hid (blk_on b2 K1.out)
    have L2 := Lib.hid (L1.out.trans (b2.mono L1.out.size))
    clear b2
    obtain ⟨⟨a0, a1, a2, a3, a4⟩, _⟩ := blk5 K2.out
    cases hk : keyOkB ⟨u, s, h, a⟩ with
    | false =>
      rw [hk] at HR
      go_wp2
      go_ret
      exact ⟨by rw [HR.out]; rfl, L2.out⟩
    | true =>
      rw [hk] at HR
      go_wp2_with fail
      refine (isNo_any _ _).mono ?_
      rintro e w' ⟨rfl, rfl⟩
      obtain ⟨b, hb⟩ : ∃ b, inB no 0 1000 = b := ⟨_, rfl⟩
      rw [hb]
      have HRb := Lib.hid hb
      clear hb
      go_wp2
      go_ret
      exact ⟨by rw [HR.out, HRb.out]; rfl, L2.out⟩

theorem keyed_any (r : RowV) (w : World) : Calls Try.prog 48 #[r.val] w fun e w' => e = .returned r.val ∧ Below w.heap.size w w' := by
  obtain ⟨⟨u, s, h, a⟩, no⟩ := r
  have HV : Hid (RowV.val ⟨⟨u, s, h, a⟩, no⟩ = .agg #[.int .i64 u, .int .i64 s, .int .i64 h, .int .i64 a, .int .i64 no]) := rfl
  rw [HV.out]
  go_enter Try.func48, Try.ntmps48
  go_wp2
  exact row_ret (cs := #[.int .i64 u, .int .i64 s, .int .i64 h, .int .i64 a, .int .i64 no]) rfl rfl (heap2b w _ _) Try.underlying78 rfl (by kernel_rfl) rfl ⟨rfl, ((Below.refl _ w).alloc (Nat.le_refl _) _).alloc (by simp) _⟩

theorem RowOk_impl (r : RowV) (w : World) : Calls Try.prog 20 #[r.val] w fun e w' => e = .returned (.bool (rowOkB r)) ∧ Below w.heap.size w w' := by
  obtain ⟨⟨u, s, h, a⟩, no⟩ := r
  have HV : Hid (RowV.val ⟨⟨u, s, h, a⟩, no⟩ = .agg #[.int .i64 u, .int .i64 s, .int .i64 h, .int .i64 a, .int .i64 no]) := rfl
  rw [HV.out]
  go_enter Try.func20, Try.ntmps20
  go_wp2_with fail
  refine (keyed_any ⟨⟨u, s, h, a⟩, no⟩ _).mono ?_
  rintro e w1 ⟨rfl, hb⟩
  have L1 := Lib.hid (below_new1 hb)
  clear hb
  rw [HV.out]
  go_wp2_with fail
  refine (rowRight_any ⟨⟨u, s, h, a⟩, no⟩ _).mono ?_
  rintro e w2 ⟨rfl, b2⟩
  have L2 := Lib.hid (L1.out.trans (b2.mono L1.out.size))
  clear b2
  go_wp2
  go_ret
  exact ⟨rfl, L2.out⟩

theorem goesOn_any (r : RowV) (w : World) : Calls Try.prog 51 #[r.val] w fun e w' => e = .returned (.bool (goesB r)) ∧ Below w.heap.size w w' := by
  obtain ⟨⟨u, s, h, a⟩, no⟩ := r
  have HV : Hid (RowV.val ⟨⟨u, s, h, a⟩, no⟩ = .agg #[.int .i64 u, .int .i64 s, .int .i64 h, .int .i64 a, .int .i64 no]) := rfl
  rw [HV.out]
  go_enter Try.func51, Try.ntmps51
  go_wp2_with fail
  refine (isNoKey_any ⟨u, s, h, a⟩ _).mono ?_
  rintro e w1 ⟨rfl, hb⟩
  have K1 := Lib.hid (blk_on hb (heap1 w _))
  have L1 := Lib.hid (below_new1 hb)
  clear hb
  obtain ⟨⟨a0, a1, a2, a3, a4⟩, _⟩ := blk5 K1.out
  cases hz : KeyV.same ⟨u, s, h, a⟩ .zero with
  | true =>
    have HR : Hid (goesB ⟨⟨u, s, h, a⟩, no⟩ = false) := by show (!KeyV.same ⟨u, s, h, a⟩ .zero && _) = _; rw [hz]; rfl
    go_wp2
    go_ret
    exact ⟨by rw [HR.out]; rfl, L1.out⟩
  | false =>
    have HR : Hid (goesB ⟨⟨u, s, h, a⟩, no⟩ = decide (no < 1000)) := by show (!KeyV.same ⟨u, s, h, a⟩ .zero && _) = _; rw [hz]; rfl
    go_wp2
    go_ret
    exact ⟨by rw [HR.out]; rfl, L1.out⟩

theorem rowNext_any (r : RowV) (h0 : 0 ≤ r.no) (h1 : r.no < 1000) (w : World) : Calls Try.prog 52 #[r.val] w fun e w' => e = .returned r.on.val ∧ Below w.heap.size w w' := by
  obtain ⟨⟨u, s, h, a⟩, no⟩ := r
  have HV : Hid (RowV.val ⟨⟨u, s, h, a⟩, no⟩ = .agg #[.int .i64 u, .int .i64 s, .int .i64 h, .int .i64 a, .int .i64 no]) := rfl
  rw [HV.out]
  dsimp only at h0 h1
  go_enter Try.func52, Try.ntmps52
  go_wp2
  exact row_ret (cs := #[.int .i64 u, .int .i64 s, .int .i64 h, .int .i64 a, .int .i64 (no + 1)]) rfl rfl (heap2b w _ _) Try.underlying27 rfl (by kernel_rfl) rfl ⟨rfl, ((Below.refl _ w).alloc (Nat.le_refl _) _).alloc (by simp) _⟩

set_option maxHeartbeats 1000000 in
theorem lock_any (k : KeyV) (no : Int) (t : ByteArray) (w : World) : Calls Try.prog 50 #[k.val, .int .i64 no, .string t] w fun e w' => e = .returned (.tuple #[(lockV ⟨k, no, t, false⟩).val, .bool (boxOkB ⟨k, no, t, false⟩)]) ∧ Below w.heap.size w w' := by
  obtain ⟨u, s, h, a⟩ := k
  have HV : Hid (KeyV.val ⟨u, s, h, a⟩ = .agg #[.int .i64 u, .int .i64 s, .int .i64 h, .int .i64 a]) := rfl
  rw [HV.out]
  go_enter Try.func50, Try.ntmps50
  go_wp2_with fail
  refine (Locked_impl ⟨u, s, h, a⟩ no t _).mono ?_
  rintro e w1 ⟨rfl, hb⟩
  have Q1 := Lib.hid (blk_on hb (heap2b w _ _))
  have L1 := Lib.hid (below_new2 hb)
  clear hb
  obtain ⟨⟨⟨xu, xs, xh, xa⟩, xn, xt, xp⟩, hx⟩ : ∃ x, lockV ⟨⟨u, s, h, a⟩, no, t, false⟩ = x := ⟨_, rfl⟩
  have HXV : Hid (BoxV.val ⟨⟨xu, xs, xh, xa⟩, xn, xt, xp⟩ = .agg #[.int .i64 xu, .int .i64 xs, .int .i64 xh, .int .i64 xa, .int .i64 xn, .string xt, .bool xp]) := rfl
  have HX := Lib.hid hx
  rw [hx, HXV.out]
  clear hx
  obtain ⟨⟨a0, a1, a2, a3, a4, a5, a6⟩, q0, q1, q2, q3, q4, q5, q6⟩ := blk7 Q1.out
  go_wp2
  refine row_ret2 (r := w.heap.size + 1) (cs := List.toArray (BoxV.cells ⟨⟨xu, xs, xh, xa⟩, xn, xt, xp⟩)) rfl rfl rfl (setAll_whole (w := w1) (vs := BoxV.cells ⟨⟨xu, xs, xh, xa⟩, xn, xt, xp⟩) Q1.out rfl) Try.underlying39 rfl (by kernel_rfl) rfl ⟨?_, setAll_below (w := w1) (by omega) (BoxV.cells ⟨⟨xu, xs, xh, xa⟩, xn, xt, xp⟩) 0 L1.out⟩
  rw [HX.out]
  rfl

set_option maxHeartbeats 1000000 in
theorem open_any (k : KeyV) (b : BoxV) (no : Int) (w : World) : Calls Try.prog 56 #[k.val, b.val, .int .i64 no] w fun e w' => e = .returned (.tuple #[.string (openT b k no), .bool (openB b k no)]) ∧ Below w.heap.size w w' := by
  obtain ⟨u, s, h, a⟩ := k
  obtain ⟨⟨xu, xs, xh, xa⟩, xn, xt, xp⟩ := b
  have HV : Hid (KeyV.val ⟨u, s, h, a⟩ = .agg #[.int .i64 u, .int .i64 s, .int .i64 h, .int .i64 a]) := rfl
  have HXV : Hid (BoxV.val ⟨⟨xu, xs, xh, xa⟩, xn, xt, xp⟩ = .agg #[.int .i64 xu, .int .i64 xs, .int .i64 xh, .int .i64 xa, .int .i64 xn, .string xt, .bool xp]) := rfl
  rw [HV.out, HXV.out]
  go_enter Try.func56, Try.ntmps56
  go_wp2_with fail
  refine (Opened_impl ⟨⟨xu, xs, xh, xa⟩, xn, xt, xp⟩ ⟨u, s, h, a⟩ no _).mono ?_
  rintro e w1 ⟨rfl, hb⟩
  have L1 := Lib.hid (below_new2 hb)
  clear hb
  go_wp2
  go_ret2
  exact ⟨rfl, L1.out⟩

end Go.Proofs.Ythkgidibonkfbaa.Tx

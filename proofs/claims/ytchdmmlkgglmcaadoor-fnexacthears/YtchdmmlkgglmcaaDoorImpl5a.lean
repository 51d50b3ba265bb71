/-
  What the small functions of chapter 5 of the program answer (a row with its key embedded: what is promoted). No conditions.
-/
import Derived.Test.YtchdmmlkgglmcaaDoorImpl4
import Derived.Test.YtchdmmlkgglmcaaDoorRow
namespace Go.Proofs.YtchdmmlkgglmcaaDoor.Tx
open Go.RowKit

theorem isNoKey_any (k : KeyV) (w : World) : Calls Tryd.prog 93 #[k.val] w fun e w' => e = .returned (.bool (k.same .zero)) ∧ Below w.heap.size w w' := by
  obtain ⟨u, s, h, a⟩ := k
  have HV : Hid (KeyV.val ⟨u, s, h, a⟩ = .agg #[.int .i64 u, .int .i64 s, .int .i64 h, .int .i64 a]) := rfl
  rw [HV.out]
  have hq := eq_agg u s h a 0 0 0 0
  have HB0 : Hid (Below w.heap.size w (w.alloc (.cells #[.int .i64 u, .int .i64 s, .int .i64 h, .int .i64 a] 27))) := (Below.refl _ w).alloc (Nat.le_refl _) _
  obtain ⟨b, hb⟩ : ∃ b, KeyV.same ⟨u, s, h, a⟩ ⟨0, 0, 0, 0⟩ = b := ⟨_, rfl⟩
  rw [hb] at hq
  have HR : Hid (KeyV.same ⟨u, s, h, a⟩ .zero = b) := hb
  clear hb
  go_enter Tryd.func93, Tryd.ntmps93
  go_wp2
  go_ret
  exact ⟨by rw [HR.out]; rfl, HB0.out⟩

theorem isRightKey_any (k : KeyV) (w : World) : Calls Tryd.prog 94 #[k.val] w fun e w' => e = .returned (.bool (keyOkB k)) ∧ Below w.heap.size w w' := by
  obtain ⟨u, s, h, a⟩ := k
  have HV : Hid (KeyV.val ⟨u, s, h, a⟩ = .agg #[.int .i64 u, .int .i64 s, .int .i64 h, .int .i64 a]) := rfl
  rw [HV.out]
  go_enter Tryd.func94, Tryd.ntmps94
  go_wp2_with fail
  refine (KeyOk_impl ⟨u, s, h, a⟩ _).mono ?_
  rintro e w1 ⟨rfl, hb⟩
  have L1 := Lib.hid (below_new1 hb)
  clear hb
  go_wp2
  go_ret
  exact ⟨rfl, L1.out⟩

set_option maxHeartbeats 1000000 in
theorem rowRight_any (r : RowV) (w : World) : Calls Tryd.prog 91 #[r.val] w fun e w' => e = .returned (.bool (rowOkB r)) ∧ Below w.heap.size w w' := by
  obtain ⟨⟨u, s, h, a⟩, no⟩ := r
  have HV : Hid (RowV.val ⟨⟨u, s, h, a⟩, no⟩ = .agg #[.int .i64 u, .int .i64 s, .int .i64 h, .int .i64 a, .int .i64 no]) := rfl
  rw [HV.out]
  go_enter Tryd.func91, Tryd.ntmps91
  go_wp2_with fail
  refine (isNoKey_any ⟨u, s, h, a⟩ _).mono ?_
  rintro e w1 ⟨rfl, hb⟩
  have K1 := Lib.hid (blk_on hb (heap1 w _))
  have L1 := Lib.hid (below_new1 hb)
  clear hb
  cases hz : KeyV.same ⟨u, s, h, a⟩ .zero with
  | true =>
    have HR : Hid (rowOkB ⟨⟨u, s, h, a⟩, no⟩ = inB no 0 1000) := by show ((KeyV.same ⟨u, s, h, a⟩ .zero || _) && _) = _; rw [hz]; rfl
    obtain ⟨⟨a0, a1, a2, a3, a4⟩, _⟩ := blk5 K1.out
    go_wp2_with fail
    refine (isNo_any _ _).mono ?_
    rintro e w' ⟨rfl, rfl⟩
    obtain ⟨b, hb⟩ : ∃ b, inB no 0 1000 = b := ⟨_, rfl⟩
    rw [hb]
    have HRb := Lib.hid hb
    clear hb
    go_wp2
    go_ret
    exact ⟨by rw [HR.out, HRb.out]; rfl, L1.out⟩
  | false =>
    have HR : Hid (rowOkB ⟨⟨u, s, h, a⟩, no⟩ = (keyOkB ⟨u, s, h, a⟩ && inB no 0 1000)) := by show ((KeyV.same ⟨u, s, h, a⟩ .zero || _) && _) = _; rw [hz]; rfl
    obtain ⟨⟨a0, a1, a2, a3, a4⟩, _⟩ := blk5 K1.out
    go_wp2_with fail
    clear a0 a1 a2 a3 a4
    refine (isRightKey_any ⟨u, s, h, a⟩ _).mono ?_
    rintro e w2 ⟨rfl, b2⟩
    have K2 := Lib.hid (blk_on b2 K1.out)
    have L2 := Lib.hid (L1.out.trans (b2.mono L1.out.size))
    clear b2
    obtain ⟨⟨a0, a1, a2, a3, a4⟩, _⟩ := blk5 K2.out
    cases hk : keyOkB ⟨u, s, h, a⟩ with
    | false =>
      rw [hk] at HR
      go_wp2
      go_ret
      exact ⟨by rw [HR.out]; rfl, L2.out⟩
    | true =>
      rw [hk] at HR
      go_wp2_with fail
      refine (isNo_any _ _).mono ?_
      rintro e w' ⟨rfl, rfl⟩
      obtain ⟨b, hb⟩ : ∃ b, inB no 0 1000 = b := ⟨_, rfl⟩
      rw [hb]
      have HRb := Lib.hid hb
      clear hb
      go_wp2
      go_ret
      exact ⟨by rw [HR.out, HRb.out]; rfl, L2.out⟩

theorem keyed_any (r : RowV) (w : World) : Calls Tryd.prog 90 #[r.val] w fun e w' => e = .returned r.val ∧ Below w.heap.size w w' := by
  obtain ⟨⟨u, s, h, a⟩, no⟩ := r
  have HV : Hid (RowV.val ⟨⟨u, s, h, a⟩, no⟩ = .agg #[.int .i64 u, .int .i64 s, .int .i64 h, .int .i64 a, .int .i64 no]) := rfl
  rw [HV.out]
  go_enter Tryd.func90, Tryd.ntmps90
  go_wp2
  exact row_ret (cs := #[.int .i64 u, .int .i64 s, .int .i64 h, .int .i64 a, .int .i64 no]) rfl rfl (heap2b w _ _) Tryd.underlying137 rfl (by kernel_rfl) rfl ⟨rfl, ((Below.refl _ w).alloc (Nat.le_refl _) _).alloc (by simp) _⟩

theorem RowOk_impl (r : RowV) (w : World) : Calls Tryd.prog 83 #[r.val] w fun e w' => e = .returned (.bool (rowOkB r)) ∧ Below w.heap.size w w' := by
  obtain ⟨⟨u, s, h, a⟩, no⟩ := r
  have HV : Hid (RowV.val ⟨⟨u, s, h, a⟩, no⟩ = .agg #[.int .i64 u, .int .i64 s, .int .i64 h, .int .i64 a, .int .i64 no]) := rfl
  rw [HV.out]
  go_enter Tryd.func83, Tryd.ntmps83
  go_wp2_with fail
  refine (keyed_any ⟨⟨u, s, h, a⟩, no⟩ _).mono ?_
  rintro e w1 ⟨rfl, hb⟩
  have L1 := Lib.hid (below_new1 hb)
  clear hb
  rw [HV.out]
  go_wp2_with fail
  refine (rowRight_any ⟨⟨u, s, h, a⟩, no⟩ _).mono ?_
  rintro e w2 ⟨rfl, b2⟩
  have L2 := Lib.hid (L1.out.trans (b2.mono L1.out.size))
  clear b2
  go_wp2
  go_ret
  exact ⟨rfl, L2.out⟩

theorem goesOn_any (r : RowV) (w : World) : Calls Tryd.prog 130 #[r.val] w fun e w' => e = .returned (.bool (goesB r)) ∧ Below w.heap.size w w' := by
  obtain ⟨⟨u, s, h, a⟩, no⟩ := r
  have HV : Hid (RowV.val ⟨⟨u, s, h, a⟩, no⟩ = .agg #[.int .i64 u, .int .i64 s, .int .i64 h, .int .i64 a, .int .i64 no]) := rfl
  rw [HV.out]
  go_enter Tryd.func130, Tryd.ntmps130
  go_wp2_with fail
  refine (isNoKey_any ⟨u, s, h, a⟩ _).mono ?_
  rintro e w1 ⟨rfl, hb⟩
  have K1 := Lib.hid (blk_on hb (heap1 w _))
  have L1 := Lib.hid (below_new1 hb)
  clear hb
  obtain ⟨⟨a0, a1, a2, a3, a4⟩, _⟩ := blk5 K1.out
  cases hz : KeyV.same ⟨u, s, h, a⟩ .zero with
  | true =>
    have HR : Hid (goesB ⟨⟨u, s, h, a⟩, no⟩ = false) := by show (!KeyV.same ⟨u, s, h, a⟩ .zero && _) = _; rw [hz]; rfl
    go_wp2
    go_ret
    exact ⟨by rw [HR.out]; rfl, L1.out⟩
  | false =>
    have HR : Hid (goesB ⟨⟨u, s, h, a⟩, no⟩ = decide (no < 1000)) := by show (!KeyV.same ⟨u, s, h, a⟩ .zero && _) = _; rw [hz]; rfl
    go_wp2
    go_ret
    exact ⟨by rw [HR.out]; rfl, L1.out⟩

theorem rowNext_any (r : RowV) (h0 : 0 ≤ r.no) (h1 : r.no < 1000) (w : World) : Calls Tryd.prog 131 #[r.val] w fun e w' => e = .returned r.on.val ∧ Below w.heap.size w w' := by
  obtain ⟨⟨u, s, h, a⟩, no⟩ := r
  have HV : Hid (RowV.val ⟨⟨u, s, h, a⟩, no⟩ = .agg #[.int .i64 u, .int .i64 s, .int .i64 h, .int .i64 a, .int .i64 no]) := rfl
  rw [HV.out]
  dsimp only at h0 h1
  go_enter Tryd.func131, Tryd.ntmps131
  go_wp2
  exact row_ret (cs := #[.int .i64 u, .int .i64 s, .int .i64 h, .int .i64 a, .int .i64 (no + 1)]) rfl rfl (heap2b w _ _) Tryd.underlying29 rfl (by kernel_rfl) rfl ⟨rfl, ((Below.refl _ w).alloc (Nat.le_refl _) _).alloc (by simp) _⟩


set_option maxHeartbeats 1000000 in
theorem open_any (k : KeyV) (b : BoxV) (no : Int) (w : World) : Calls Tryd.prog 129 #[k.val, b.val, .int .i64 no] w fun e w' => e = .returned (.tuple #[.string (openT b k no), .bool (openB b k no)]) ∧ Below w.heap.size w w' := by
  obtain ⟨u, s, h, a⟩ := k
  obtain ⟨⟨xu, xs, xh, xa⟩, xn, xt, xp⟩ := b
  have HV : Hid (KeyV.val ⟨u, s, h, a⟩ = .agg #[.int .i64 u, .int .i64 s, .int .i64 h, .int .i64 a]) := rfl
  have HXV : Hid (BoxV.val ⟨⟨xu, xs, xh, xa⟩, xn, xt, xp⟩ = .agg #[.int .i64 xu, .int .i64 xs, .int .i64 xh, .int .i64 xa, .int .i64 xn, .string xt, .bool xp]) := rfl
  rw [HV.out, HXV.out]
  go_enter Tryd.func129, Tryd.ntmps129
  go_wp2_with fail
  refine (Opened_impl ⟨⟨xu, xs, xh, xa⟩, xn, xt, xp⟩ ⟨u, s, h, a⟩ no _).mono ?_
  rintro e w1 ⟨rfl, hb⟩
  have L1 := Lib.hid (below_new2 hb)
  clear hb
  go_wp2
  go_ret2
  exact ⟨rfl, L1.out⟩

end Go.Proofs.YtchdmmlkgglmcaaDoor.Tx

/-
  What the functions of chapter 4 of the program answer. No conditions.
-/
import Derived.Test.YtdnkpdfhnpmhbaaImpl3
import Derived.Test.YtdnkpdfhnpmhbaaBox
namespace Go.Proofs.Ytdnkpdfhnpmhbaa.Tx
open Go.RowKit

theorem isNo_any (n : Int) (w : World) : Calls Try.prog 39 #[.int .i64 n] w fun e w' => e = .returned (.bool (inB n 0 1000)) ∧ w = w' := by
  by_cases h1 : 0 ≤ n <;> by_cases h2 : n ≤ 1000
  all_goals
    go_enter Try.func39, Try.ntmps39
    go_wp2
    go_ret
    exact ⟨by simp [inB, h1, h2], rfl⟩

set_option maxHeartbeats 1000000 in
theorem fitFor_carry (b : BoxV) (w : World) : Calls Try.prog 32 #[b.val, .int .i64 1] w fun e w' => e = .returned (.bool (boxOkB b)) ∧ Below w.heap.size w w' := by
  obtain ⟨⟨u, s, h, a⟩, no, t, sp⟩ := b
  have HV : Hid (BoxV.val ⟨⟨u, s, h, a⟩, no, t, sp⟩ = .agg #[.int .i64 u, .int .i64 s, .int .i64 h, .int .i64 a, .int .i64 no, .string t, .bool sp]) := rfl
  rw [HV.out]
  go_enter Try.func32, Try.ntmps32
  go_wp2_with fail
  refine (KeyOk_impl ⟨u, s, h, a⟩ _).mono ?_
  rintro e w1 ⟨rfl, hb⟩
  obtain ⟨⟨a0, a1, a2, a3, a4, a5, a6⟩, _⟩ := blk7 ((hb.block w.heap.size (by simp)).trans (heap1 w _))
  have HB := Lib.hid (below_new1 hb)
  clear hb
  cases hk : keyOkB ⟨u, s, h, a⟩ with
  | false =>
    go_wp2
    go_ret
    exact ⟨by simp [boxOkB, hk], HB.out⟩
  | true =>
    go_wp2_with fail
    refine (isNo_any _ _).mono ?_
    rintro e w' ⟨rfl, rfl⟩
    cases hn : inB no 0 1000 with
    | false =>
      go_wp2
      go_ret
      exact ⟨by simp [boxOkB, hk, hn], HB.out⟩
    | true =>
      by_cases ht : t.size ≤ 40
      · have HR : Hid (boxOkB ⟨⟨u, s, h, a⟩, no, t, sp⟩ = true) := by show _ = _; simp [boxOkB, hk, hn, ht]
        have ht' : decide ((t.size : Int) ≤ 40) = true := decide_eq_true (by omega)
        go_wp2
        go_ret
        exact ⟨by rw [HR.out]; rfl, HB.out⟩
      · have HR : Hid (boxOkB ⟨⟨u, s, h, a⟩, no, t, sp⟩ = false) := by show _ = _; simp [boxOkB, hk, hn, ht]
        have ht' : decide ((t.size : Int) ≤ 40) = false := decide_eq_false (by omega)
        go_wp2
        go_ret
        exact ⟨by rw [HR.out]; rfl, HB.out⟩
set_option maxHeartbeats 1000000 in
theorem fitFor_open0 (b : BoxV) (w : World) : Calls Try.prog 32 #[(BoxV.mk b.k b.no b.t false).val, .int .i64 2] w fun e w' => e = .returned (.bool (boxOkB ⟨b.k, b.no, b.t, false⟩)) ∧ Below w.heap.size w w' := by
  obtain ⟨⟨u, s, h, a⟩, no, t, sp0⟩ := b
  dsimp only
  have HV : Hid (BoxV.val ⟨⟨u, s, h, a⟩, no, t, false⟩ = .agg #[.int .i64 u, .int .i64 s, .int .i64 h, .int .i64 a, .int .i64 no, .string t, .bool false]) := rfl
  rw [HV.out]
  go_enter Try.func32, Try.ntmps32
  go_wp2_with fail
  refine (KeyOk_impl ⟨u, s, h, a⟩ _).mono ?_
  rintro e w1 ⟨rfl, hb⟩
  obtain ⟨⟨a0, a1, a2, a3, a4, a5, a6⟩, _⟩ := blk7 ((hb.block w.heap.size (by simp)).trans (heap1 w _))
  have HB := Lib.hid (below_new1 hb)
  clear hb
  cases hk : keyOkB ⟨u, s, h, a⟩ with
  | false =>
    go_wp2
    go_ret
    exact ⟨by simp [boxOkB, hk], HB.out⟩
  | true =>
    go_wp2_with fail
    refine (isNo_any _ _).mono ?_
    rintro e w' ⟨rfl, rfl⟩
    cases hn : inB no 0 1000 with
    | false =>
      go_wp2
      go_ret
      exact ⟨by simp [boxOkB, hk, hn], HB.out⟩
    | true =>
      by_cases ht : t.size ≤ 40
      · have HR : Hid (boxOkB ⟨⟨u, s, h, a⟩, no, t, false⟩ = true) := by show _ = _; simp [boxOkB, hk, hn, ht]
        have ht' : decide ((t.size : Int) ≤ 40) = true := decide_eq_true (by omega)
        go_wp2
        go_ret
        exact ⟨by rw [HR.out]; rfl, HB.out⟩
      · have HR : Hid (boxOkB ⟨⟨u, s, h, a⟩, no, t, false⟩ = false) := by show _ = _; simp [boxOkB, hk, hn, ht]
        have ht' : decide ((t.size : Int) ≤ 40) = false := decide_eq_false (by omega)
        go_wp2
        go_ret
        exact ⟨by rw [HR.out]; rfl, HB.out⟩
theorem fitFor_spoilt (k : KeyV) (no : Int) (t : ByteArray) (w : World) : Calls Try.prog 32 #[(BoxV.mk k no t true).val, .int .i64 2] w fun e w' => e = .returned (.bool false) ∧ Below w.heap.size w w' := by
  obtain ⟨u, s, h, a⟩ := k
  have HV : Hid (BoxV.val ⟨⟨u, s, h, a⟩, no, t, true⟩ = .agg #[.int .i64 u, .int .i64 s, .int .i64 h, .int .i64 a, .int .i64 no, .string t, .bool true]) := rfl
  rw [HV.out]
  have HB : ∀ o : Obj, Hid (Below w.heap.size w (w.alloc o)) := fun _ => (Below.refl _ w).alloc (Nat.le_refl _) _
  go_enter Try.func32, Try.ntmps32
  go_wp2
  go_ret
  exact ⟨rfl, (HB _).out⟩

theorem fitFor_open (b : BoxV) (w : World) : Calls Try.prog 32 #[b.val, .int .i64 2] w fun e w' => e = .returned (.bool (!b.sp && boxOkB b)) ∧ Below w.heap.size w w' := by
  obtain ⟨k, no, t, sp⟩ := b
  cases sp
  · exact fitFor_open0 ⟨k, no, t, false⟩ w
  · exact fitFor_spoilt k no t w

theorem BoxOk_impl (b : BoxV) (w : World) : Calls Try.prog 36 #[b.val] w fun e w' => e = .returned (.bool (boxOkB b)) ∧ Below w.heap.size w w' := by
  obtain ⟨⟨u, s, h, a⟩, no, t, sp⟩ := b
  have HV : Hid (BoxV.val ⟨⟨u, s, h, a⟩, no, t, sp⟩ = .agg #[.int .i64 u, .int .i64 s, .int .i64 h, .int .i64 a, .int .i64 no, .string t, .bool sp]) := rfl
  rw [HV.out]
  go_enter Try.func36, Try.ntmps36
  go_wp2_with fail
  refine (fitFor_carry ⟨⟨u, s, h, a⟩, no, t, sp⟩ _).mono ?_
  rintro e w1 ⟨rfl, hb⟩
  have HB := Lib.hid (below_new1 hb)
  clear hb
  cases hk : boxOkB ⟨⟨u, s, h, a⟩, no, t, sp⟩
  all_goals
    go_wp2
    go_ret
    exact ⟨by rw [hk]; rfl, HB.out⟩




end Go.Proofs.Ytdnkpdfhnpmhbaa.Tx

/-
  What the functions of chapter 4 of the program answer. No conditions.
-/
import Derived.Test.YtchdmmlkgglmcaaDoorImpl3
import Derived.Test.YtchdmmlkgglmcaaDoorBox
namespace Go.Proofs.YtchdmmlkgglmcaaDoor.Tx
open Go.RowKit

theorem isNo_any (n : Int) (w : World) : Calls Tryd.prog 95 #[.int .i64 n] w fun e w' => e = .returned (.bool (inB n 0 1000)) ∧ w = w' := by
  by_cases h1 : 0 ≤ n <;> by_cases h2 : n ≤ 1000
  all_goals
    go_enter Tryd.func95, Tryd.ntmps95
    go_wp2
    go_ret
    exact ⟨by simp [inB, h1, h2], rfl⟩

set_option maxHeartbeats 1000000 in
theorem fitFor_carry (b : BoxV) (w : World) : Calls Tryd.prog 124 #[b.val, .int .i64 1] w fun e w' => e = .returned (.bool (boxOkB b)) ∧ Below w.heap.size w w' := by
  obtain ⟨⟨u, s, h, a⟩, no, t, sp⟩ := b
  have HV : Hid (BoxV.val ⟨⟨u, s, h, a⟩, no, t, sp⟩ = .agg #[.int .i64 u, .int .i64 s, .int .i64 h, .int .i64 a, .int .i64 no, .string t, .bool sp]) := rfl
  rw [HV.out]
  go_enter Tryd.func124, Tryd.ntmps124
  go_wp2_with fail
  refine (KeyOk_impl ⟨u, s, h, a⟩ _).mono ?_
  rintro e w1 ⟨rfl, hb⟩
  obtain ⟨⟨a0, a1, a2, a3, a4, a5, a6⟩, _⟩ := blk7 ((hb.block w.heap.size (by simp)).trans (heap1 w _))
  have HB := Lib.hid (below_new1 hb)
  clear hb
  cases hk : keyOkB ⟨u, s, h, a⟩ with
  | false =>
    go_wp2
    go_ret
    exact ⟨by simp [boxOkB, hk], HB.out⟩
  | true =>
    go_wp2_with fail
    refine (isNo_any _ _).mono ?_
    rintro e w' ⟨rfl, rfl⟩
    cases hn : inB no 0 1000 with
    | false =>
      go_wp2
      go_ret
      exact ⟨by simp [boxOkB, hk, hn], HB.out⟩
    | true =>
      by_cases ht : t.size ≤ 40
      · have HR : Hid (boxOkB ⟨⟨u, s, h, a⟩, no, t, sp⟩ = true) := by show _ = _; simp [boxOkB, hk, hn, ht]
        have ht' : decide ((t.size : Int) ≤ 40) = true := decide_eq_true (by omega)
        go_wp2
        go_ret
        exact ⟨by rw [HR.out]; rfl, HB.out⟩
      · have HR : Hid (boxOkB ⟨⟨u, s, h, a⟩, no, t, sp⟩ = false) := by show _ = _; simp [boxOkB, hk, hn, ht]
        have ht' : decide ((t.size : Int) ≤ 40) = false := decide_eq_false (by omega)
        go_wp2
        go_ret
        exact ⟨by rw [HR.out]; rfl, HB.out⟩
set_option maxHeartbeats 1000000 in
theorem fitFor_open0 (b : BoxV) (w : World) : Calls Tryd.prog 124 #[(BoxV.mk b.k b.no b.t false).val, .int .i64 2] w fun e w' => e = .returned (.bool (boxOkB ⟨b.k, b.no, b.t, false⟩)) ∧ Below w.heap.size w w' := by
  obtain ⟨⟨u, s, h, a⟩, no, t, sp0⟩ := b
  dsimp only
  have HV : Hid (BoxV.val ⟨⟨u, s, h, a⟩, no, t, false⟩ = .agg #[.int .i64 u, .int .i64 s, .int .i64 h, .int .i64 a, .int .i64 no, .string t, .bool false]) := rfl
  rw [HV.out]
  go_enter Tryd.func124, Tryd.ntmps124
  go_wp2_with fail
  refine (KeyOk_impl ⟨u, s, h, a⟩ _).mono ?_
  rintro e w1 ⟨rfl, hb⟩
  obtain ⟨⟨a0, a1, a2, a3, a4, a5, a6⟩, _⟩ := blk7 ((hb.block w.heap.size (by simp)).trans (heap1 w _))
  have HB := Lib.hid (below_new1 hb)
  clear hb
  cases hk : keyOkB ⟨u, s, h, a⟩ with
  | false =>
    go_wp2
    go_ret
    exact ⟨by simp [boxOkB, hk], HB.out⟩
  | true =>
    go_wp2_with fail
    refine (isNo_any _ _).mono ?_
    rintro e w' ⟨rfl, rfl⟩
    cases hn : inB no 0 1000 with
    | false =>
      go_wp2
      go_ret
      exact ⟨by simp [boxOkB, hk, hn], HB.out⟩
    | true =>
      by_cases ht : t.size ≤ 40
      · have HR : Hid (boxOkB ⟨⟨u, s, h, a⟩, no, t, false⟩ = true) := by show _ = _; simp [boxOkB, hk, hn, ht]
        have ht' : decide ((t.size : Int) ≤ 40) = true := decide_eq_true (by omega)
        go_wp2
        go_ret
        exact ⟨by rw [HR.out]; rfl, HB.out⟩
      · have HR : Hid (boxOkB ⟨⟨u, s, h, a⟩, no, t, false⟩ = false) := by show _ = _; simp [boxOkB, hk, hn, ht]
        have ht' : decide ((t.size : Int) ≤ 40) = false := decide_eq_false (by omega)
        go_wp2
        go_ret
        exact ⟨by rw [HR.out]; rfl, HB.out⟩
theorem fitFor_spoilt (k : KeyV) (no : Int) (t : ByteArray) (w : World) : Calls Tryd.prog 124 #[(BoxV.mk k no t true).val, .int .i64 2] w fun e w' => e = .returned (.bool false) ∧ Below w.heap.size w w' := by
  obtain ⟨u, s, h, a⟩ := k
  have HV : Hid (BoxV.val ⟨⟨u, s, h, a⟩, no, t, true⟩ = .agg #[.int .i64 u, .int .i64 s, .int .i64 h, .int .i64 a, .int .i64 no, .string t, .bool true]) := rfl
  rw [HV.out]
  have HB : ∀ o : Obj, Hid (Below w.heap.size w (w.alloc o)) := fun _ => (Below.refl _ w).alloc (Nat.le_refl _) _
  go_enter Tryd.func124, Tryd.ntmps124
  go_wp2
  go_ret
  exact ⟨rfl, (HB _).out⟩

theorem fitFor_open (b : BoxV) (w : World) : Calls Tryd.prog 124 #[b.val, .int .i64 2] w fun e w' => e = .returned (.bool (!b.sp && boxOkB b)) ∧ Below w.heap.size w w' := by
  obtain ⟨k, no, t, sp⟩ := b
  cases sp
  · exact fitFor_open0 ⟨k, no, t, false⟩ w
  · exact fitFor_spoilt k no t w

set_option maxHeartbeats 2000000 in
theorem Opened_impl (b : BoxV) (k : KeyV) (no : Int) (w : World) : Calls Tryd.prog 132 #[b.val, k.val, .int .i64 no] w fun e w' => e = .returned (.tuple #[.string (openT b k no), .bool (openB b k no)]) ∧ Below w.heap.size w w' := by
  obtain ⟨⟨u, s, h, a⟩, n, t, sp⟩ := b
  obtain ⟨u', s', h', a'⟩ := k
  have HV : Hid (BoxV.val ⟨⟨u, s, h, a⟩, n, t, sp⟩ = .agg #[.int .i64 u, .int .i64 s, .int .i64 h, .int .i64 a, .int .i64 n, .string t, .bool sp]) := rfl
  have HV' : Hid (KeyV.val ⟨u', s', h', a'⟩ = .agg #[.int .i64 u', .int .i64 s', .int .i64 h', .int .i64 a']) := rfl
  rw [HV.out, HV'.out]
  go_enter Tryd.func132, Tryd.ntmps132
  go_wp2_with fail
  refine (fitFor_open ⟨⟨u, s, h, a⟩, n, t, sp⟩ _).mono ?_
  rintro e w1 ⟨rfl, hb⟩
  obtain ⟨⟨a0, a1, a2, a3, a4, a5, a6⟩, _⟩ := blk7 ((hb.block w.heap.size (by simp <;> omega)).trans (heap2a w _ _))
  obtain ⟨⟨b0, b1, b2, b3⟩, _⟩ := blk4 ((hb.block (w.heap.size + 1) (by simp)).trans (heap2b w _ _))
  have HB := Lib.hid (below_new2 hb)
  clear hb
  have hq := eq_agg u s h a u' s' h' a'
  cases hk : boxOkB ⟨⟨u, s, h, a⟩, n, t, sp⟩ with
  | false =>
    have HR : Hid (openB ⟨⟨u, s, h, a⟩, n, t, sp⟩ ⟨u', s', h', a'⟩ no = false) := by show _ = _; simp [openB, hk]
    have HT : Hid (openT ⟨⟨u, s, h, a⟩, n, t, sp⟩ ⟨u', s', h', a'⟩ no = ⟨#[]⟩) := by show _ = _; simp [openT, HR.out]
    go_wp2
    go_ret2
    exact ⟨by rw [HR.out, HT.out]; rfl, HB.out⟩
  | true =>
    cases sp with
    | true =>
      have HR : Hid (openB ⟨⟨u, s, h, a⟩, n, t, true⟩ ⟨u', s', h', a'⟩ no = false) := by show _ = _; simp [openB]
      have HT : Hid (openT ⟨⟨u, s, h, a⟩, n, t, true⟩ ⟨u', s', h', a'⟩ no = ⟨#[]⟩) := by show _ = _; simp [openT, HR.out]
      go_wp2
      go_ret2
      exact ⟨by rw [HR.out, HT.out]; rfl, HB.out⟩
    | false =>
      cases he : KeyV.same ⟨u, s, h, a⟩ ⟨u', s', h', a'⟩ with
      | false =>
        have HR : Hid (openB ⟨⟨u, s, h, a⟩, n, t, false⟩ ⟨u', s', h', a'⟩ no = false) := by show _ = _; simp [openB, he]
        have HT : Hid (openT ⟨⟨u, s, h, a⟩, n, t, false⟩ ⟨u', s', h', a'⟩ no = ⟨#[]⟩) := by show _ = _; simp [openT, HR.out]
        rw [he] at hq
        clear he
        go_wp2
        go_ret2
        exact ⟨by rw [HR.out, HT.out]; rfl, HB.out⟩
      | true =>
        rw [he] at hq
        by_cases hn : n = no
        · have HR : Hid (openB ⟨⟨u, s, h, a⟩, n, t, false⟩ ⟨u', s', h', a'⟩ no = true) := by show _ = _; unfold openB; dsimp only; rw [hk, he, beq_int hn]; rfl
          have HT : Hid (openT ⟨⟨u, s, h, a⟩, n, t, false⟩ ⟨u', s', h', a'⟩ no = t) := by show _ = _; simp [openT, HR.out]
          have hne : (n != no) = false := by simp [hn]
          clear he hn
          go_wp2
          go_ret2
          exact ⟨by rw [HR.out, HT.out]; rfl, HB.out⟩
        · have HR : Hid (openB ⟨⟨u, s, h, a⟩, n, t, false⟩ ⟨u', s', h', a'⟩ no = false) := by show _ = _; simp [openB, hn]
          have HT : Hid (openT ⟨⟨u, s, h, a⟩, n, t, false⟩ ⟨u', s', h', a'⟩ no = ⟨#[]⟩) := by show _ = _; simp [openT, HR.out]
          have hne : (n != no) = true := by simp [hn]
          clear he hn
          go_wp2
          go_ret2
          exact ⟨by rw [HR.out, HT.out]; rfl, HB.out⟩


end Go.Proofs.YtchdmmlkgglmcaaDoor.Tx

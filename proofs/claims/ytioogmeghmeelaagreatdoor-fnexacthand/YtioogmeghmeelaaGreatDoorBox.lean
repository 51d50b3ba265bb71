/-
  What the functions of chapter 4 of the model answer, and what toBox, szBox and eqBox of the laws do. Condition: a box's text has at most 2^63 - 1 bytes.
-/
import Derived.Test.YtioogmeghmeelaaGreatDoorBlk
import Derived.Test.YtioogmeghmeelaaGreatDoorKey
import Derived.Test.YtioogmeghmeelaaGreatDoorBox0
namespace Go.Proofs.YtioogmeghmeelaaGreatDoor.Tx
open Go.RowKit

theorem blk7 {w : World} {g : Nat} {v0 v1 v2 v3 v4 v5 v6 : Value} {t : TypeId} (h : w.heap[g]? = some (.cells #[v0, v1, v2, v3, v4, v5, v6] t (0, 0))) :
    (w.cell? ⟨g, 0, none⟩ = some v0 ∧ w.cell? ⟨g, 1, none⟩ = some v1 ∧ w.cell? ⟨g, 2, none⟩ = some v2 ∧ w.cell? ⟨g, 3, none⟩ = some v3 ∧ w.cell? ⟨g, 4, none⟩ = some v4 ∧ w.cell? ⟨g, 5, none⟩ = some v5 ∧ w.cell? ⟨g, 6, none⟩ = some v6) ∧
    (w.frozen? ⟨g, 0, none⟩ = false ∧ w.frozen? ⟨g, 1, none⟩ = false ∧ w.frozen? ⟨g, 2, none⟩ = false ∧ w.frozen? ⟨g, 3, none⟩ = false ∧ w.frozen? ⟨g, 4, none⟩ = false ∧ w.frozen? ⟨g, 5, none⟩ = false ∧ w.frozen? ⟨g, 6, none⟩ = false) :=
  ⟨⟨blk_cell h 0, blk_cell h 1, blk_cell h 2, blk_cell h 3, blk_cell h 4, blk_cell h 5, blk_cell h 6⟩, blk_frozen h 0, blk_frozen h 1, blk_frozen h 2, blk_frozen h 3, blk_frozen h 4, blk_frozen h 5, blk_frozen h 6⟩

set_option maxHeartbeats 1000000 in
theorem BoxOk_spec (b : BoxV) (w : World) : Calls Tryz.prog 81 #[b.val] w fun e w' => e = .returned (.bool (boxOkB b)) ∧ Below w.heap.size w w' := by
  obtain ⟨⟨u, s, h, a⟩, no, t, sp⟩ := b
  have HV : Hid (BoxV.val ⟨⟨u, s, h, a⟩, no, t, sp⟩ = .agg #[.int .i64 u, .int .i64 s, .int .i64 h, .int .i64 a, .int .i64 no, .string t, .bool sp]) := rfl
  rw [HV.out]
  go_enter Tryz.func81, Tryz.ntmps81
  go_wp2_with fail
  refine (KeyOk_spec ⟨u, s, h, a⟩ _).mono ?_
  rintro e w1 ⟨rfl, hb⟩
  obtain ⟨⟨a0, a1, a2, a3, a4, a5, a6⟩, _⟩ := blk7 ((hb.block w.heap.size (by simp)).trans (heap1 w _))
  have HB := Lib.hid (below_new1 hb)
  clear hb
  cases hk : keyOkB ⟨u, s, h, a⟩ with
  | false =>
    go_wp2
    go_ret
    exact ⟨by simp [boxOkB, hk], HB.out⟩
  | true =>
    go_wp2_with fail
    refine (l1In_b _ _ _ _).mono ?_
    rintro e w' ⟨rfl, rfl⟩
    cases hn : inB no 0 1000 with
    | false =>
      go_wp2
      go_ret
      exact ⟨by simp [boxOkB, hk, hn], HB.out⟩
    | true =>
      by_cases ht : t.size ≤ 40
      · have HR : Hid (boxOkB ⟨⟨u, s, h, a⟩, no, t, sp⟩ = true) := by show _ = _; simp [boxOkB, hk, hn, ht]
        have ht' : decide ((t.size : Int) ≤ 40) = true := decide_eq_true (by omega)
        go_wp2
        go_ret
        exact ⟨by rw [HR.out]; rfl, HB.out⟩
      · have HR : Hid (boxOkB ⟨⟨u, s, h, a⟩, no, t, sp⟩ = false) := by show _ = _; simp [boxOkB, hk, hn, ht]
        have ht' : decide ((t.size : Int) ≤ 40) = false := decide_eq_false (by omega)
        go_wp2
        go_ret
        exact ⟨by rw [HR.out]; rfl, HB.out⟩

theorem heap3a (w : World) (o o' o'' : Obj) : (((w.alloc o).alloc o').alloc o'').heap[w.heap.size]? = some o := alloc_blk (heap2a w o o')
theorem heap3b (w : World) (o o' o'' : Obj) : (((w.alloc o).alloc o').alloc o'').heap[w.heap.size + 1]? = some o' := alloc_blk (heap2b w o o')
theorem heap3c (w : World) (o o' o'' : Obj) : (((w.alloc o).alloc o').alloc o'').heap[w.heap.size + 2]? = some o'' := by have := heap_alloc_new ((w.alloc o).alloc o') o''; rwa [World.size_alloc, World.size_alloc] at this
theorem below_new3 {w w1 : World} {o o' o'' : Obj} (hb : Below (((w.alloc o).alloc o').alloc o'').heap.size (((w.alloc o).alloc o').alloc o'') w1) : Below w.heap.size w w1 := below_new2 (below_new1 hb)


set_option maxHeartbeats 2000000 in
theorem Opened_spec (b : BoxV) (k : KeyV) (no : Int) (w : World) : Calls Tryz.prog 61 #[b.val, k.val, .int .i64 no] w fun e w' => e = .returned (.tuple #[.string (openT b k no), .bool (openB b k no)]) ∧ Below w.heap.size w w' := by
  obtain ⟨⟨u, s, h, a⟩, n, t, sp⟩ := b
  obtain ⟨u', s', h', a'⟩ := k
  have HV : Hid (BoxV.val ⟨⟨u, s, h, a⟩, n, t, sp⟩ = .agg #[.int .i64 u, .int .i64 s, .int .i64 h, .int .i64 a, .int .i64 n, .string t, .bool sp]) := rfl
  have HV' : Hid (KeyV.val ⟨u', s', h', a'⟩ = .agg #[.int .i64 u', .int .i64 s', .int .i64 h', .int .i64 a']) := rfl
  rw [HV.out, HV'.out]
  go_enter Tryz.func61, Tryz.ntmps61
  go_wp2_with fail
  refine (BoxOk_spec ⟨⟨u, s, h, a⟩, n, t, sp⟩ _).mono ?_
  rintro e w1 ⟨rfl, hb⟩
  obtain ⟨⟨a0, a1, a2, a3, a4, a5, a6⟩, _⟩ := blk7 ((hb.block w.heap.size (by simp <;> omega)).trans (heap2a w _ _))
  obtain ⟨⟨b0, b1, b2, b3⟩, _⟩ := blk4 ((hb.block (w.heap.size + 1) (by simp)).trans (heap2b w _ _))
  have HB := Lib.hid (below_new2 hb)
  clear hb
  have hq := eq_agg u s h a u' s' h' a'
  cases hk : boxOkB ⟨⟨u, s, h, a⟩, n, t, sp⟩ with
  | false =>
    have HR : Hid (openB ⟨⟨u, s, h, a⟩, n, t, sp⟩ ⟨u', s', h', a'⟩ no = false) := by show _ = _; simp [openB, hk]
    have HT : Hid (openT ⟨⟨u, s, h, a⟩, n, t, sp⟩ ⟨u', s', h', a'⟩ no = ⟨#[]⟩) := by show _ = _; simp [openT, HR.out]
    go_wp2
    go_ret2
    exact ⟨by rw [HR.out, HT.out]; rfl, HB.out⟩
  | true =>
    cases sp with
    | true =>
      have HR : Hid (openB ⟨⟨u, s, h, a⟩, n, t, true⟩ ⟨u', s', h', a'⟩ no = false) := by show _ = _; simp [openB]
      have HT : Hid (openT ⟨⟨u, s, h, a⟩, n, t, true⟩ ⟨u', s', h', a'⟩ no = ⟨#[]⟩) := by show _ = _; simp [openT, HR.out]
      go_wp2
      go_ret2
      exact ⟨by rw [HR.out, HT.out]; rfl, HB.out⟩
    | false =>
      cases he : KeyV.same ⟨u, s, h, a⟩ ⟨u', s', h', a'⟩ with
      | false =>
        have HR : Hid (openB ⟨⟨u, s, h, a⟩, n, t, false⟩ ⟨u', s', h', a'⟩ no = false) := by show _ = _; simp [openB, he]
        have HT : Hid (openT ⟨⟨u, s, h, a⟩, n, t, false⟩ ⟨u', s', h', a'⟩ no = ⟨#[]⟩) := by show _ = _; simp [openT, HR.out]
        rw [he] at hq
        clear he
        go_wp2
        go_ret2
        exact ⟨by rw [HR.out, HT.out]; rfl, HB.out⟩
      | true =>
        rw [he] at hq
        by_cases hn : n = no
        · have HR : Hid (openB ⟨⟨u, s, h, a⟩, n, t, false⟩ ⟨u', s', h', a'⟩ no = true) := by show _ = _; unfold openB; dsimp only; rw [hk, he, beq_int hn]; rfl
          have HT : Hid (openT ⟨⟨u, s, h, a⟩, n, t, false⟩ ⟨u', s', h', a'⟩ no = t) := by show _ = _; simp [openT, HR.out]
          have hne : (n != no) = false := by simp [hn]
          clear he hn
          go_wp2
          go_ret2
          exact ⟨by rw [HR.out, HT.out]; rfl, HB.out⟩
        · have HR : Hid (openB ⟨⟨u, s, h, a⟩, n, t, false⟩ ⟨u', s', h', a'⟩ no = false) := by show _ = _; simp [openB, hn]
          have HT : Hid (openT ⟨⟨u, s, h, a⟩, n, t, false⟩ ⟨u', s', h', a'⟩ no = ⟨#[]⟩) := by show _ = _; simp [openT, HR.out]
          have hne : (n != no) = true := by simp [hn]
          clear he hn
          go_wp2
          go_ret2
          exact ⟨by rw [HR.out, HT.out]; rfl, HB.out⟩


set_option maxHeartbeats 1000000 in
theorem toBox_any (b : BoxV) (w : World) : Calls Tryz.prog 8 #[b.val] w fun e w' => e = .returned b.val ∧ Below w.heap.size w w' := by
  obtain ⟨⟨u, s, h, a⟩, n, t, sp⟩ := b
  have HV : Hid (BoxV.val ⟨⟨u, s, h, a⟩, n, t, sp⟩ = .agg #[.int .i64 u, .int .i64 s, .int .i64 h, .int .i64 a, .int .i64 n, .string t, .bool sp]) := rfl
  rw [HV.out]
  go_enter Tryz.func8, Tryz.ntmps8
  go_wp2_with fail
  refine (toKey_any ⟨u, s, h, a⟩ _).mono ?_
  rintro e w1 ⟨rfl, hb⟩
  have hx := (hb.block w.heap.size (by simp <;> omega)).trans (heap3a w _ _ _)
  have hr := (hb.block (w.heap.size + 1) (by simp <;> omega)).trans (heap3b w _ _ _)
  have ho := (hb.block (w.heap.size + 2) (by simp)).trans (heap3c w _ _ _)
  obtain ⟨⟨a0, a1, a2, a3, a4, a5, a6⟩, _⟩ := blk7 hx
  obtain ⟨⟨b0, b1, b2, b3, b4, b5, b6⟩, p0, p1, p2, p3, p4, p5, p6⟩ := blk7 hr
  obtain ⟨⟨c0, c1, c2, c3, c4, c5, c6⟩, q0, q1, q2, q3, q4, q5, q6⟩ := blk7 ho
  have HX := Lib.hid hx
  have HRB := Lib.hid hr
  have HO := Lib.hid ho
  have HB := Lib.hid (below_new3 hb)
  clear hb hx hr ho
  unfold KeyV.val
  go_wp2
  exact row_ret (cs := (BoxV.cells ⟨⟨u, s, h, a⟩, n, t, sp⟩).toArray) rfl rfl (setAll_whole (vs := BoxV.cells ⟨⟨u, s, h, a⟩, n, t, sp⟩) (setAll_away (g := w.heap.size + 1 + 1) (by omega) (BoxV.cells ⟨⟨u, s, h, a⟩, n, t, sp⟩) 0 HRB.out) rfl) Tryz.underlying43 rfl (by kernel_rfl) rfl
    ⟨rfl, setAll_below (by omega) (BoxV.cells ⟨⟨u, s, h, a⟩, n, t, sp⟩) 0 (setAll_below (g := w.heap.size + 1 + 1) (by omega) (BoxV.cells ⟨⟨u, s, h, a⟩, n, t, sp⟩) 0 HB.out)⟩

theorem szBox_any (b : BoxV) (hb : b.t.size ≤ 9223372036854775807) (left : Int) (h0 : 0 ≤ left) (h1 : left ≤ 1099511627776) (w : World) : Calls Tryz.prog 5 #[b.val, .int .i64 left] w fun e w' => e = .returned (.int .i64 (szLeft left b.t.size)) ∧ Below w.heap.size w w' := by
  obtain ⟨⟨u, s, h, a⟩, n, t, sp⟩ := b
  have HV : Hid (BoxV.val ⟨⟨u, s, h, a⟩, n, t, sp⟩ = .agg #[.int .i64 u, .int .i64 s, .int .i64 h, .int .i64 a, .int .i64 n, .string t, .bool sp]) := rfl
  rw [HV.out]
  dsimp only at hb
  have HB : Hid (Below w.heap.size w (w.alloc (.cells #[.int .i64 u, .int .i64 s, .int .i64 h, .int .i64 a, .int .i64 n, .string t, .bool sp] 31))) := (Below.refl _ w).alloc (Nat.le_refl _) _
  by_cases hl : left - (t.size : Int) < 0
  · have HR : Hid (szLeft left t.size = -1) := if_pos hl
    go_enter Tryz.func5, Tryz.ntmps5
    go_wp2
    go_ret
    exact ⟨by rw [HR.out]; rfl, HB.out⟩
  · have HR : Hid (szLeft left t.size = left - t.size) := if_neg hl
    go_enter Tryz.func5, Tryz.ntmps5
    go_wp2
    go_ret
    exact ⟨by rw [HR.out]; rfl, HB.out⟩


end Go.Proofs.YtioogmeghmeelaaGreatDoor.Tx

/-
  What TokenOk, Fresh and AgeOf of the model answer, and what toToken, szToken and eqToken of the laws do. Condition: numbers are int64; a seal's text has at most 2^63 - 1 bytes.
-/
import Derived.Test.YtoffdlokndngeaaGreatDoorBox
import Derived.Test.YtoffdlokndngeaaGreatDoorTime
import Derived.Test.YtoffdlokndngeaaGreatDoorTok0
namespace Go.Proofs.YtoffdlokndngeaaGreatDoor.Tx
open Go.RowKit

theorem blk11 {w : World} {g : Nat} {v0 v1 v2 v3 v4 v5 v6 v7 v8 v9 v10 : Value} {t : TypeId} (h : w.heap[g]? = some (.cells #[v0, v1, v2, v3, v4, v5, v6, v7, v8, v9, v10] t (0, 0))) :
    (w.cell? ⟨g, 0, none⟩ = some v0 ∧ w.cell? ⟨g, 1, none⟩ = some v1 ∧ w.cell? ⟨g, 2, none⟩ = some v2 ∧ w.cell? ⟨g, 3, none⟩ = some v3 ∧ w.cell? ⟨g, 4, none⟩ = some v4 ∧ w.cell? ⟨g, 5, none⟩ = some v5 ∧ w.cell? ⟨g, 6, none⟩ = some v6 ∧ w.cell? ⟨g, 7, none⟩ = some v7 ∧ w.cell? ⟨g, 8, none⟩ = some v8 ∧ w.cell? ⟨g, 9, none⟩ = some v9 ∧ w.cell? ⟨g, 10, none⟩ = some v10) ∧
    (w.frozen? ⟨g, 0, none⟩ = false ∧ w.frozen? ⟨g, 1, none⟩ = false ∧ w.frozen? ⟨g, 2, none⟩ = false ∧ w.frozen? ⟨g, 3, none⟩ = false ∧ w.frozen? ⟨g, 4, none⟩ = false ∧ w.frozen? ⟨g, 5, none⟩ = false ∧ w.frozen? ⟨g, 6, none⟩ = false ∧ w.frozen? ⟨g, 7, none⟩ = false ∧ w.frozen? ⟨g, 8, none⟩ = false ∧ w.frozen? ⟨g, 9, none⟩ = false ∧ w.frozen? ⟨g, 10, none⟩ = false) :=
  ⟨⟨blk_cell h 0, blk_cell h 1, blk_cell h 2, blk_cell h 3, blk_cell h 4, blk_cell h 5, blk_cell h 6, blk_cell h 7, blk_cell h 8, blk_cell h 9, blk_cell h 10⟩, blk_frozen h 0, blk_frozen h 1, blk_frozen h 2, blk_frozen h 3, blk_frozen h 4, blk_frozen h 5, blk_frozen h 6, blk_frozen h 7, blk_frozen h 8, blk_frozen h 9, blk_frozen h 10⟩

set_option maxHeartbeats 2000000 in
theorem TokenOk_spec (t : TokV) (w : World) : Calls Tryz.prog 43 #[t.val] w fun e w' => e = .returned (.bool (tokOkB t)) ∧ Below w.heap.size w w' := by
  obtain ⟨ts, tb, tl, tm, ⟨⟨u, s, h, a⟩, no, t, sp⟩⟩ := t
  have HV : Hid (TokV.val ⟨ts, tb, tl, tm, ⟨⟨u, s, h, a⟩, no, t, sp⟩⟩ = .agg #[.int .i64 ts, .int .i64 tb, .int .i64 tl, .int .i64 tm, .int .i64 u, .int .i64 s, .int .i64 h, .int .i64 a, .int .i64 no, .string t, .bool sp]) := rfl
  rw [HV.out]
  obtain ⟨W, hW⟩ : ∃ W, w.alloc (.cells #[.int .i64 ts, .int .i64 tb, .int .i64 tl, .int .i64 tm, .int .i64 u, .int .i64 s, .int .i64 h, .int .i64 a, .int .i64 no, .string t, .bool sp] 39) = W := ⟨_, rfl⟩
  have HB0 : Hid (Below w.heap.size w W) := by rw [← hW]; exact (Below.refl _ w).alloc (Nat.le_refl _) _
  obtain ⟨⟨a0, a1, a2, a3, a4, a5, a6, a7, a8, a9, a10⟩, _⟩ := blk11 (show W.heap[w.heap.size]? = some (.cells #[.int .i64 ts, .int .i64 tb, .int .i64 tl, .int .i64 tm, .int .i64 u, .int .i64 s, .int .i64 h, .int .i64 a, .int .i64 no, .string t, .bool sp] 39) by rw [← hW]; exact heap1 w _)
  go_enter Tryz.func43, Tryz.ntmps43
  go_wp2_with fail
  clear hW
  refine (IsDraw_spec _ _).mono ?_
  rintro e w' ⟨rfl, rfl⟩
  cases h1 : isDrawB ts with
  | false =>
    go_wp2
    go_ret
    exact ⟨by simp [tokOkB, h1], HB0.out⟩
  | true =>
    go_wp2_with fail
    refine (l6Time_any _ _).mono ?_
    rintro e w' ⟨rfl, rfl⟩
    cases h2 : inB tb 0 100000 with
    | false =>
      go_wp2
      go_ret
      exact ⟨by simp [tokOkB, h1, h2], HB0.out⟩
    | true =>
      go_wp2_with fail
      refine (l1In_b _ _ _ _).mono ?_
      rintro e w' ⟨rfl, rfl⟩
      cases h3 : inB tl 1 1000 with
      | false =>
        go_wp2
        go_ret
        exact ⟨by simp [tokOkB, h1, h2, h3], HB0.out⟩
      | true =>
        go_wp2_with fail
        refine (l1In_b _ _ _ _).mono ?_
        rintro e w' ⟨rfl, rfl⟩
        cases h4 : inB tm 0 100 with
        | false =>
          go_wp2
          go_ret
          exact ⟨by simp [tokOkB, h1, h2, h3, h4], HB0.out⟩
        | true =>
          go_wp2_with fail
          refine (BoxOk_spec ⟨⟨u, s, h, a⟩, no, t, sp⟩ _).mono ?_
          rintro e w1 ⟨rfl, hb⟩
          have HB := Lib.hid (HB0.out.trans (hb.mono HB0.out.size))
          clear hb
          cases h5 : boxOkB ⟨⟨u, s, h, a⟩, no, t, sp⟩
          all_goals
            go_wp2
            go_ret
            exact ⟨by simp [tokOkB, h1, h2, h3, h4, h5], HB.out⟩

set_option maxHeartbeats 2000000 in
theorem Fresh_spec (t : TokV) (now : Int) (w : World) : Calls Tryz.prog 16 #[t.val, .int .i64 now] w fun e w' => e = .returned (.bool (freshB t now)) ∧ Below w.heap.size w w' := by
  obtain ⟨ts, tb, tl, tm, ⟨⟨u, s, h, a⟩, no, t, sp⟩⟩ := t
  have HV : Hid (TokV.val ⟨ts, tb, tl, tm, ⟨⟨u, s, h, a⟩, no, t, sp⟩⟩ = .agg #[.int .i64 ts, .int .i64 tb, .int .i64 tl, .int .i64 tm, .int .i64 u, .int .i64 s, .int .i64 h, .int .i64 a, .int .i64 no, .string t, .bool sp]) := rfl
  rw [HV.out]
  go_enter Tryz.func16, Tryz.ntmps16
  go_wp2_with fail
  refine (TokenOk_spec ⟨ts, tb, tl, tm, ⟨⟨u, s, h, a⟩, no, t, sp⟩⟩ _).mono ?_
  rintro e w1 ⟨rfl, hb⟩
  obtain ⟨⟨a0, a1, a2, a3, a4, a5, a6, a7, a8, a9, a10⟩, _⟩ := blk11 (blk_on hb (heap1 w _))
  have HB := Lib.hid (below_new1 hb)
  clear hb
  cases hk : tokOkB ⟨ts, tb, tl, tm, ⟨⟨u, s, h, a⟩, no, t, sp⟩⟩ with
  | false =>
    have HR : Hid (freshB ⟨ts, tb, tl, tm, ⟨⟨u, s, h, a⟩, no, t, sp⟩⟩ now = false) := by show _ = _; simp [freshB, hk]
    go_wp2
    go_ret
    exact ⟨by rw [HR.out]; rfl, HB.out⟩
  | true =>
    have hr := tok_range hk
    dsimp only at hr
    have hb0 := hr.2.1
    have hl0 := hr.2.2.1
    have HR : Hid (freshB ⟨ts, tb, tl, tm, ⟨⟨u, s, h, a⟩, no, t, sp⟩⟩ now = inB now tb (tb + tl)) := by show _ = _; simp [freshB, hk]
    clear hr hk
    go_wp2_with fail
    refine (l1In_b _ _ _ _).mono ?_
    rintro e w' ⟨rfl, rfl⟩
    cases hx : inB now tb (tb + tl)
    all_goals
      rw [hx] at HR
      go_wp2
      go_ret
      exact ⟨by rw [HR.out]; rfl, HB.out⟩

set_option maxHeartbeats 2000000 in
theorem AgeOf_spec (t : TokV) (now : Int) (w : World) : Calls Tryz.prog 116 #[t.val, .int .i64 now] w fun e w' => e = .returned (.int .i64 (ageV t now)) ∧ Below w.heap.size w w' := by
  obtain ⟨ts, tb, tl, tm, ⟨⟨u, s, h, a⟩, no, t, sp⟩⟩ := t
  have HV : Hid (TokV.val ⟨ts, tb, tl, tm, ⟨⟨u, s, h, a⟩, no, t, sp⟩⟩ = .agg #[.int .i64 ts, .int .i64 tb, .int .i64 tl, .int .i64 tm, .int .i64 u, .int .i64 s, .int .i64 h, .int .i64 a, .int .i64 no, .string t, .bool sp]) := rfl
  rw [HV.out]
  go_enter Tryz.func116, Tryz.ntmps116
  go_wp2_with fail
  refine (TokenOk_spec ⟨ts, tb, tl, tm, ⟨⟨u, s, h, a⟩, no, t, sp⟩⟩ _).mono ?_
  rintro e w1 ⟨rfl, hb⟩
  obtain ⟨⟨a0, a1, a2, a3, a4, a5, a6, a7, a8, a9, a10⟩, _⟩ := blk11 (blk_on hb (heap1 w _))
  have HB := Lib.hid (below_new1 hb)
  clear hb
  cases hk : tokOkB ⟨ts, tb, tl, tm, ⟨⟨u, s, h, a⟩, no, t, sp⟩⟩ with
  | false =>
    have HR : Hid (ageV ⟨ts, tb, tl, tm, ⟨⟨u, s, h, a⟩, no, t, sp⟩⟩ now = -1) := by show _ = _; simp [ageV, hk]
    go_wp2
    go_ret
    exact ⟨by rw [HR.out]; rfl, HB.out⟩
  | true =>
    have hr := tok_range hk
    dsimp only at hr
    have hb0 := hr.2.1
    clear hr
    go_wp2_with fail
    refine (l6Time_any _ _).mono ?_
    rintro e w' ⟨rfl, rfl⟩
    cases hx : inB now 0 100000 with
    | false =>
      have HR : Hid (ageV ⟨ts, tb, tl, tm, ⟨⟨u, s, h, a⟩, no, t, sp⟩⟩ now = -1) := by show _ = _; simp [ageV, hx]
      go_wp2
      go_ret
      exact ⟨by rw [HR.out]; rfl, HB.out⟩
    | true =>
      have hn0 := inB_true hx
      by_cases hlt : now < tb
      · have HR : Hid (ageV ⟨ts, tb, tl, tm, ⟨⟨u, s, h, a⟩, no, t, sp⟩⟩ now = -1) := by
          show _ = _
          have : ¬ tb ≤ now := by omega
          simp [ageV, this]
        clear hk hx
        go_wp2
        go_ret
        exact ⟨by rw [HR.out]; rfl, HB.out⟩
      · have HR : Hid (ageV ⟨ts, tb, tl, tm, ⟨⟨u, s, h, a⟩, no, t, sp⟩⟩ now = now - tb) := by
          show _ = _
          have : tb ≤ now := by omega
          simp [ageV, this, hk, hx]
        clear hk hx
        go_wp2
        go_ret
        exact ⟨by rw [HR.out]; rfl, HB.out⟩



set_option maxHeartbeats 2000000 in
theorem eqToken_same (t : TokV) (w : World) : Calls Tryz.prog 23 #[t.val, t.val] w fun e w' => e = .returned (.bool true) ∧ Below w.heap.size w w' := by
  obtain ⟨ts, tb, tl, tm, ⟨⟨u, s, h, a⟩, no, t, sp⟩⟩ := t
  have HV : Hid (TokV.val ⟨ts, tb, tl, tm, ⟨⟨u, s, h, a⟩, no, t, sp⟩⟩ = .agg #[.int .i64 ts, .int .i64 tb, .int .i64 tl, .int .i64 tm, .int .i64 u, .int .i64 s, .int .i64 h, .int .i64 a, .int .i64 no, .string t, .bool sp]) := rfl
  rw [HV.out]
  go_enter Tryz.func23, Tryz.ntmps23
  go_wp2_with fail
  refine (eqBox_same ⟨⟨u, s, h, a⟩, no, t, sp⟩ _).mono ?_
  rintro e w1 ⟨rfl, hb⟩
  have HB := Lib.hid (below_new2 hb)
  clear hb
  go_wp2
  go_ret
  exact ⟨rfl, HB.out⟩

end Go.Proofs.YtoffdlokndngeaaGreatDoor.Tx

/-
  What the program's TokenOk and need answer. Conditions: the numbers are int64; the library's table of powers of ten holds what its text lays in it.
-/
import Derived.WalkLawsBesides
import Derived.Test.YtoffdlokndngeaaGreatDoorImpl6a
import Derived.Test.YtoffdlokndngeaaGreatDoorTime
namespace Go.Proofs.YtoffdlokndngeaaGreatDoor.Tx
open Go.RowKit

/-- What is thrown where something is not right. -/
def gaveUp : Value := .iface 9 (.string ⟨#[110, 111, 32, 114, 105, 103, 104, 116, 32, 116, 111, 107, 101, 110]⟩)
theorem need_true (w : World) : Calls Tryz.prog 102 #[.bool true] w fun e w' => e = .returned (.tuple #[]) ∧ w = w' := by
  go_enter Tryz.func102, Tryz.ntmps102
  go_wp2
  go_end0
  exact ⟨rfl, rfl⟩
theorem need_false (w : World) : Calls Tryz.prog 102 #[.bool false] w fun e w' => e = .panicked [{ v := gaveUp, recovered := false }] ∧ w = w' := by
  go_enter Tryz.func102, Tryz.ntmps102
  go_wp2
  exact ⟨rfl, rfl, rfl⟩

theorem isLife_any (n : Int) (w : World) : Calls Tryz.prog 122 #[.int .i64 n] w fun e w' => e = .returned (.bool (inB n 1 1000)) ∧ w = w' := by
  by_cases h1 : 1 ≤ n <;> by_cases h2 : n ≤ 1000
  all_goals
    go_enter Tryz.func122, Tryz.ntmps122
    go_wp2
    go_ret
    exact ⟨by simp [inB, h1, h2], rfl⟩
theorem isMost_any (n : Int) (w : World) : Calls Tryz.prog 123 #[.int .i64 n] w fun e w' => e = .returned (.bool (inB n 0 100)) ∧ w = w' := by
  by_cases h1 : 0 ≤ n <;> by_cases h2 : n ≤ 100
  all_goals
    go_enter Tryz.func123, Tryz.ntmps123
    go_wp2
    go_ret
    exact ⟨by simp [inB, h1, h2], rfl⟩

/-- Are its numbers right, and is its seal's text theirs? -/
def numsB (t : TokV) : Bool := isDrawB t.s && (inB t.b 0 100000 && (inB t.l 1 1000 && inB t.m 0 100))
def sealedB (t : TokV) : Bool := t.x.t.toList == (tokTxt t.s t.b t.l t.m).toList
theorem nums_tok (t : TokV) : (numsB t && boxOkB t.x) = tokOkB t := by
  unfold numsB tokOkB
  cases isDrawB t.s <;> cases inB t.b 0 100000 <;> cases inB t.l 1 1000 <;> cases inB t.m 0 100 <;> rfl

set_option maxHeartbeats 4000000 in
theorem hasRight_any (t : TokV) (w : World) : Calls Tryz.prog 105 #[t.val] w fun e w' => e = .returned (.bool (numsB t)) ∧ Below w.heap.size w w' := by
  obtain ⟨ts, tb, tl, tm, ⟨⟨u, s, h, a⟩, no, t, sp⟩⟩ := t
  have HV : Hid (TokV.val ⟨ts, tb, tl, tm, ⟨⟨u, s, h, a⟩, no, t, sp⟩⟩ = .agg #[.int .i64 ts, .int .i64 tb, .int .i64 tl, .int .i64 tm, .int .i64 u, .int .i64 s, .int .i64 h, .int .i64 a, .int .i64 no, .string t, .bool sp]) := rfl
  rw [HV.out]
  obtain ⟨W, hW⟩ : ∃ W, w.alloc (.cells #[.int .i64 ts, .int .i64 tb, .int .i64 tl, .int .i64 tm, .int .i64 u, .int .i64 s, .int .i64 h, .int .i64 a, .int .i64 no, .string t, .bool sp] 39) = W := ⟨_, rfl⟩
  have HB0 : Hid (Below w.heap.size w W) := by rw [← hW]; exact (Below.refl _ w).alloc (Nat.le_refl _) _
  have GT : Hid (W.heap[w.heap.size]? = some (.cells #[.int .i64 ts, .int .i64 tb, .int .i64 tl, .int .i64 tm, .int .i64 u, .int .i64 s, .int .i64 h, .int .i64 a, .int .i64 no, .string t, .bool sp] 39)) := by rw [← hW]; exact heap1 w _
  obtain ⟨⟨a0, a1, a2, a3, a4, a5, a6, a7, a8, a9, a10⟩, _⟩ := blk11 GT.out
  go_enter Tryz.func105, Tryz.ntmps105
  go_wp2_with fail
  clear hW
  refine (IsDraw_impl _ _).mono ?_
  rintro e w1 ⟨rfl, hb⟩
  have HB := Lib.hid (HB0.out.trans (hb.mono HB0.out.size))
  replace GT := Lib.hid (blk_on hb GT.out)
  clear hb a0 a1 a2 a3 a4 a5 a6 a7 a8 a9 a10
  obtain ⟨⟨a0, a1, a2, a3, a4, a5, a6, a7, a8, a9, a10⟩, _⟩ := blk11 GT.out
  cases h1 : isDrawB ts with
  | false =>
    go_wp2
    go_ret
    exact ⟨by simp [numsB, h1], HB.out⟩
  | true =>
    go_wp2_with fail
    refine (isTime_any _ _).mono ?_
    rintro e w' ⟨rfl, rfl⟩
    cases h2 : inB tb 0 100000 with
    | false =>
      go_wp2
      go_ret
      exact ⟨by simp [numsB, h1, h2], HB.out⟩
    | true =>
      go_wp2_with fail
      refine (isLife_any _ _).mono ?_
      rintro e w' ⟨rfl, rfl⟩
      cases h3 : inB tl 1 1000 with
      | false =>
        go_wp2
        go_ret
        exact ⟨by simp [numsB, h1, h2, h3], HB.out⟩
      | true =>
        go_wp2_with fail
        refine (isMost_any _ _).mono ?_
        rintro e w' ⟨rfl, rfl⟩
        cases h4 : inB tm 0 100
        all_goals
          go_wp2
          go_ret
          exact ⟨by simp [numsB, h1, h2, h3, h4], HB.out⟩

set_option maxHeartbeats 4000000 in
theorem TokenOk_impl (t : TokV) (h0 : I64 t.s) (h1 : I64 t.b) (h2 : I64 t.l) (h3 : I64 t.m) (w : World) (ht : Tab w) :
    Calls Tryz.prog 71 #[t.val] w fun e w' => e = .returned (.bool (tokOkB t && sealedB t)) ∧ Below w.heap.size w w' := by
  have cN : Hid (∀ w' : World, Calls Tryz.prog 105 #[t.val] w' fun e w'' => e = .returned (.bool (numsB t)) ∧ Below w'.heap.size w' w'') := fun w' => hasRight_any t w'
  have cB : Hid (∀ w' : World, Calls Tryz.prog 95 #[t.x.val] w' fun e w'' => e = .returned (.bool (boxOkB t.x)) ∧ Below w'.heap.size w' w'') := fun w' => BoxOk_impl t.x w'
  have cW : Hid (∀ w' : World, Tab w' → Calls Tryz.prog 106 #[t.val] w' fun e w'' => e = .returned (.string (tokTxt t.s t.b t.l t.m)) ∧ Below w'.heap.size w' w'') := fun w' h' => written_any t h0 h1 h2 h3 w' h'
  obtain ⟨n1, e1⟩ : ∃ x, numsB t = x := ⟨_, rfl⟩
  obtain ⟨n2, e2⟩ : ∃ x, boxOkB t.x = x := ⟨_, rfl⟩
  obtain ⟨z, e3⟩ : ∃ x, tokTxt t.s t.b t.l t.m = x := ⟨_, rfl⟩
  have HR : Hid ((tokOkB t && sealedB t) = (n1 && n2 && (t.x.t.toList == z.toList))) := by show _ = _; rw [← nums_tok, sealedB, e1, e2, e3]
  rw [e1] at cN
  rw [e2] at cB
  rw [e3] at cW
  rw [HR.out]
  clear e1 e2 e3 h0 h1 h2 h3 HR
  obtain ⟨ts, tb, tl, tm, ⟨⟨xu, xs, xh, xa⟩, xn, xt, xp⟩⟩ := t
  have HV : Hid (TokV.val ⟨ts, tb, tl, tm, ⟨⟨xu, xs, xh, xa⟩, xn, xt, xp⟩⟩ = .agg #[.int .i64 ts, .int .i64 tb, .int .i64 tl, .int .i64 tm, .int .i64 xu, .int .i64 xs, .int .i64 xh, .int .i64 xa, .int .i64 xn, .string xt, .bool xp]) := rfl
  have HVB : Hid (BoxV.val ⟨⟨xu, xs, xh, xa⟩, xn, xt, xp⟩ = .agg #[.int .i64 xu, .int .i64 xs, .int .i64 xh, .int .i64 xa, .int .i64 xn, .string xt, .bool xp]) := rfl
  dsimp only at cB ⊢
  rw [HV.out] at cN cW ⊢
  rw [HVB.out] at cB
  obtain ⟨W, hW⟩ : ∃ W, w.alloc (.cells #[.int .i64 ts, .int .i64 tb, .int .i64 tl, .int .i64 tm, .int .i64 xu, .int .i64 xs, .int .i64 xh, .int .i64 xa, .int .i64 xn, .string xt, .bool xp] 39) = W := ⟨_, rfl⟩
  have K : Hid (Below w.heap.size w W) := by rw [← hW]; exact (Below.refl _ w).alloc (Nat.le_refl _) _
  have GT : Hid (W.heap[w.heap.size]? = some (.cells #[.int .i64 ts, .int .i64 tb, .int .i64 tl, .int .i64 tm, .int .i64 xu, .int .i64 xs, .int .i64 xh, .int .i64 xa, .int .i64 xn, .string xt, .bool xp] 39)) := by rw [← hW]; exact heap1 w _
  have HT := Lib.hid (ht.on K.out)
  clear ht
  go_enter Tryz.func71, Tryz.ntmps71
  go_wp2
  clear hW
  refine wp_region_own (W := W) [] (fun _ => True) stays_true trivial [0, 1, 0, 0, 0, 1, 0, 0, 0, 0, 0, 0, 1, 0, 0, 0] (by kernel_rfl) (by kernel_rfl) (by kernel_rfl) ?_
  have fk : ∀ q : In (plainEnv W []), _ := fun q => (blk11 (q.block GT.out (by simp))).1
  refine wpO_quiet 1 rfl (by kernel_rfl) ?_
  simp only [List.take, List.drop]
  repeat (go_big_quiet_step (fail))
  refine wpQuiet_nil ?_
  refine wpO_call (f := 105) (args := #[.agg #[.int .i64 ts, .int .i64 tb, .int .i64 tl, .int .i64 tm, .int .i64 xu, .int .i64 xs, .int .i64 xh, .int .i64 xa, .int .i64 xn, .string xt, .bool xp]]) (.bool n1) rfl (fun w' => by simp [go_sem]) (fun w' _ _ => cN.out w') ?_
  simp only [Act.put, List.setIfInBounds_toArray, List.set_cons_succ, List.set_cons_zero]
  cases n1 with
  | false =>
    refine wpO_quiet 3 rfl (by kernel_rfl) ?_
    simp only [List.take, List.drop]
    repeat (go_big_quiet_step (fail))
    refine wpQuiet_nil ?_
    refine wpO_skip rfl ?_
    simp only [Act.put, List.setIfInBounds_toArray, List.set_cons_succ, List.set_cons_zero]
    refine wpO_quiet 6 rfl (by kernel_rfl) ?_
    simp only [List.take, List.drop]
    repeat (go_big_quiet_step (fail))
    refine wpQuiet_nil ?_
    refine wpO_skip rfl ?_
    simp only [Act.put, List.setIfInBounds_toArray, List.set_cons_succ, List.set_cons_zero]
    refine wpO_quiet 3 rfl (by kernel_rfl) ?_
    simp only [List.take, List.drop]
    repeat (go_big_quiet_step (fail))
    refine wpQuiet_nil ?_
    refine wpO_nil ?_
    rintro w1 b1 _
    have B1 := Lib.hid (K.out.trans ((kept_below b1).mono K.out.size))
    clear fk b1
    go_wp2
    go_ret
    exact ⟨rfl, B1.out⟩
  | true =>
    refine wpO_quiet 3 rfl (by kernel_rfl) ?_
    simp only [List.take, List.drop]
    repeat (go_big_quiet_step (fail))
    refine wpQuiet_nil ?_
    refine wpO_call (f := 95) (args := #[.agg #[.int .i64 xu, .int .i64 xs, .int .i64 xh, .int .i64 xa, .int .i64 xn, .string xt, .bool xp]]) (.bool n2) rfl (fun w' => by simp [go_sem]) (fun w' _ _ => cB.out w') ?_
    simp only [Act.put, List.setIfInBounds_toArray, List.set_cons_succ, List.set_cons_zero]
    cases n2 with
    | false =>
      refine wpO_quiet 6 rfl (by kernel_rfl) ?_
      simp only [List.take, List.drop]
      repeat (go_big_quiet_step (fail))
      refine wpQuiet_nil ?_
      refine wpO_skip rfl ?_
      simp only [Act.put, List.setIfInBounds_toArray, List.set_cons_succ, List.set_cons_zero]
      refine wpO_quiet 3 rfl (by kernel_rfl) ?_
      simp only [List.take, List.drop]
      repeat (go_big_quiet_step (fail))
      refine wpQuiet_nil ?_
      refine wpO_nil ?_
      rintro w1 b1 _
      have B1 := Lib.hid (K.out.trans ((kept_below b1).mono K.out.size))
      clear fk b1
      go_wp2
      go_ret
      exact ⟨rfl, B1.out⟩
    | true =>
      refine wpO_quiet 6 rfl (by kernel_rfl) ?_
      simp only [List.take, List.drop]
      repeat (go_big_quiet_step (fail))
      refine wpQuiet_nil ?_
      refine wpO_call (f := 106) (args := #[.agg #[.int .i64 ts, .int .i64 tb, .int .i64 tl, .int .i64 tm, .int .i64 xu, .int .i64 xs, .int .i64 xh, .int .i64 xa, .int .i64 xn, .string xt, .bool xp]]) (.string z) rfl (fun w' => by simp [go_sem]) (fun w' hc _ => cW.out w' (HT.out.on (kept_below hc))) ?_
      simp only [Act.put, List.setIfInBounds_toArray, List.set_cons_succ, List.set_cons_zero]
      refine wpO_quiet 3 rfl (by kernel_rfl) ?_
      simp only [List.take, List.drop]
      repeat (go_big_quiet_step (fail))
      refine wpQuiet_nil ?_
      refine wpO_nil ?_
      rintro w1 b1 _
      have B1 := Lib.hid (K.out.trans ((kept_below b1).mono K.out.size))
      clear fk b1
      go_wp2
      go_ret
      exact ⟨by simp, B1.out⟩

end Go.Proofs.YtoffdlokndngeaaGreatDoor.Tx

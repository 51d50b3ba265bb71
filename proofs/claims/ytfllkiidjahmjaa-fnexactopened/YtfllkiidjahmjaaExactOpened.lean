/-
  The law FnExactOpened returns true at every box, key and number, and they read behind the call as they read before: Opened of the program and of the model answer alike. No condition.
-/
import Derived.Test.YtfllkiidjahmjaaRows
import Derived.WalkKit
import Derived.ProofKit
import Derived.OpenShut
import Derived.ShutString
import Derived.ChangeOld
import Derived.Below
import Derived.SliceStrings
import Derived.Lib.SmallJoins
import Derived.Test.YtfllkiidjahmjaaOpen4
import Derived.Test.YtfllkiidjahmjaaRegionL
import Derived.Test.YtfllkiidjahmjaaImpl4
namespace Go.Proofs.Ytfllkiidjahmjaa.fnExactOpened
open Go.ChangeShapes Go.WideShapes Go.ChangeAt Go.RowKit
open Go.ChangeMaps (open_string shut_string)
set_option linter.unusedVariables false

set_option maxHeartbeats 4000000 in
theorem walk (w : World) (b : Tx.BoxV) (hb : b.t.size ≤ maxLen) (k : Tx.KeyV) (no : Int) (hno : (Lit.int .i64 no).wf = true) :
    Calls Try.prog 6 #[b.val, k.val, .int .i64 no] w fun e w' => e = .returned (.bool true) ∧ Below w.heap.size w w' := by
  obtain ⟨⟨u, s, h, a⟩, n, t, sp⟩ := b
  obtain ⟨u', s', h', a'⟩ := k
  unfold maxLen at hb
  have hb' : t.size ≤ 9223372036854775807 := by have e : (2 : Nat) ^ 63 - 1 = 9223372036854775807 := rfl; rw [← e]; exact hb
  clear hb hno
  have HV : Hid (Tx.BoxV.val ⟨⟨u, s, h, a⟩, n, t, sp⟩ = .agg #[.int .i64 u, .int .i64 s, .int .i64 h, .int .i64 a, .int .i64 n, .string t, .bool sp]) := rfl
  have HV' : Hid (Tx.KeyV.val ⟨u', s', h', a'⟩ = .agg #[.int .i64 u', .int .i64 s', .int .i64 h', .int .i64 a']) := rfl
  have K0 := ((Tx.Kp.start (w := w)).alloc (.cells #[.int .i64 u, .int .i64 s, .int .i64 h, .int .i64 a, .int .i64 n, .string t, .bool sp] 40)).alloc (.cells #[.int .i64 u', .int .i64 s', .int .i64 h', .int .i64 a'] 38)
  rw [HV.out, HV'.out]
  go_enter Try.func6, Try.ntmps6
  go_wp2_with fail
  refine (Tx.szBox_any ⟨⟨u, s, h, a⟩, n, t, sp⟩ hb' _ (by omega) (by omega) _).mono ?_
  rintro e W ⟨rfl, b1⟩
  have K1 := K0.go b1
  have G1 := Lib.hid (Tx.blk_on b1 (Tx.heap2a w _ _))
  have G2 := Lib.hid (Tx.blk_on b1 (Tx.heap2b w _ _))
  clear b1
  obtain ⟨lf, hlf⟩ : ∃ lf, Tx.szLeft 1048576 t.size = lf := ⟨_, rfl⟩
  rw [hlf]
  clear hlf
  by_cases hl : lf < 0
  · go_wp2
    go_ret
    exact ⟨rfl, K1.bel⟩
  · have r1 : ∀ m : Tx.Later W, (m.w.cell? ⟨w.heap.size, 0, none⟩ = some (.int .i64 u) ∧ m.w.cell? ⟨w.heap.size, 1, none⟩ = some (.int .i64 s) ∧ m.w.cell? ⟨w.heap.size, 2, none⟩ = some (.int .i64 h) ∧ m.w.cell? ⟨w.heap.size, 3, none⟩ = some (.int .i64 a) ∧ m.w.cell? ⟨w.heap.size, 4, none⟩ = some (.int .i64 n) ∧ m.w.cell? ⟨w.heap.size, 5, none⟩ = some (.string t) ∧ m.w.cell? ⟨w.heap.size, 6, none⟩ = some (.bool sp)) := fun m => (Tx.blk7 (m.block G1.out)).1
    have r2 : ∀ m : Tx.Later W, (m.w.cell? ⟨w.heap.size + 1, 0, none⟩ = some (.int .i64 u') ∧ m.w.cell? ⟨w.heap.size + 1, 1, none⟩ = some (.int .i64 s') ∧ m.w.cell? ⟨w.heap.size + 1, 2, none⟩ = some (.int .i64 h') ∧ m.w.cell? ⟨w.heap.size + 1, 3, none⟩ = some (.int .i64 a')) := fun m => (Tx.blk4 (m.block G2.out)).1
    obtain ⟨ot, hot⟩ : ∃ x, Tx.openT ⟨⟨u, s, h, a⟩, n, t, sp⟩ ⟨u', s', h', a'⟩ no = x := ⟨_, rfl⟩
    obtain ⟨ob, hob⟩ : ∃ x, Tx.openB ⟨⟨u, s, h, a⟩, n, t, sp⟩ ⟨u', s', h', a'⟩ no = x := ⟨_, rfl⟩
    have cB : ∀ w' : World, Calls Try.prog 20 #[.agg #[.int .i64 u, .int .i64 s, .int .i64 h, .int .i64 a, .int .i64 n, .string t, .bool sp]] w' fun e w'' => e = .returned (.agg #[.int .i64 u, .int .i64 s, .int .i64 h, .int .i64 a, .int .i64 n, .string t, .bool sp]) ∧ Below w'.heap.size w' w'' := fun w' => Tx.toBox_any ⟨⟨u, s, h, a⟩, n, t, sp⟩ w'
    have cK : ∀ w' : World, Calls Try.prog 21 #[.agg #[.int .i64 u', .int .i64 s', .int .i64 h', .int .i64 a']] w' fun e w'' => e = .returned (.agg #[.int .i64 u', .int .i64 s', .int .i64 h', .int .i64 a']) ∧ Below w'.heap.size w' w'' := fun w' => Tx.toKey_any ⟨u', s', h', a'⟩ w'
    have cS : ∀ w' : World, Calls Try.prog 18 #[.agg #[.int .i64 u, .int .i64 s, .int .i64 h, .int .i64 a, .int .i64 n, .string t, .bool sp], .agg #[.int .i64 u', .int .i64 s', .int .i64 h', .int .i64 a'], .int .i64 no] w' fun e w'' => e = .returned (.tuple #[.string ot, .bool ob]) ∧ Below w'.heap.size w' w'' := fun w' => by
      have h1 := Tx.Opened_spec ⟨⟨u, s, h, a⟩, n, t, sp⟩ ⟨u', s', h', a'⟩ no w'
      rw [hot, hob] at h1
      exact h1
    have cI : ∀ w' : World, Calls Try.prog 12 #[.agg #[.int .i64 u, .int .i64 s, .int .i64 h, .int .i64 a, .int .i64 n, .string t, .bool sp], .agg #[.int .i64 u', .int .i64 s', .int .i64 h', .int .i64 a'], .int .i64 no] w' fun e w'' => e = .returned (.tuple #[.string ot, .bool ob]) ∧ Below w'.heap.size w' w'' := fun w' => by
      have h1 := Tx.Opened_impl ⟨⟨u, s, h, a⟩, n, t, sp⟩ ⟨u', s', h', a'⟩ no w'
      rw [hot, hob] at h1
      exact h1
    clear hot hob
    go_wp2_with fail
    refine Tx.wp_region_later (W := W) (Below.refl _ _) (by kernel_rfl) (by kernel_rfl) ?_
    repeat (go_big_quiet_step (first | (go_at_call 20; exact Tx.calls_later (cB _)) | (go_at_call 21; exact Tx.calls_later (cK _)) | (go_at_call 18; exact Tx.calls_later (cS _))))
    refine wpQuiet_nil ?_
    rintro _ ⟨⟨w2, b2⟩, rfl⟩
    have B2 := Lib.hid b2
    clear b2
    go_wp2_with fail
    refine Tx.wp_region_later (W := W) B2.out (by kernel_rfl) (by kernel_rfl) ?_
    repeat (go_big_quiet_step (first | (go_at_call 20; exact Tx.calls_later (cB _)) | (go_at_call 21; exact Tx.calls_later (cK _)) | (go_at_call 12; exact Tx.calls_later (cI _))))
    refine wpQuiet_nil ?_
    rintro _ ⟨⟨w3, b3⟩, rfl⟩
    have B3 := Lib.hid b3
    clear b3
    go_wp2
    go_ret
    exact ⟨rfl, (K1.go B3.out).bel⟩

theorem own : ownKnob Try.prog.godebug = none := by kernel_rfl
theorem laidOut : laidOutB Try.prog = true := by kernel_rfl

set_option maxRecDepth 100000 in
theorem lifted (os : Os) (started : os.Started) (H : Type) (enc : TypeId × Value → H) :
    ReturnsInHanded {} Try.checked os 6 .any (Rows.fnExactOpenedSpec.pre6 enc Try.prog Try.f6 Rows.fnExactOpenedRow.domain false) (Rows.fnExactOpenedSpec.post enc Try.prog Try.f6 false true false false) := by
  refine returnsInHanded_of_change (C := Try.checked) own started (by kernel_rfl) Try.func6
    (ChangeSpec.witness6 (enc := enc) (C := Try.checked) false ⟨#[], #[.agg #[.int .i64 0, .int .i64 0, .int .i64 0, .int .i64 0, .int .i64 0, .string ByteArray.empty, .bool false], .agg #[.int .i64 0, .int .i64 0, .int .i64 0, .int .i64 0], .int .i64 0], []⟩ 8 (by kernel_rfl) (by kernel_rfl) (by kernel_rfl) (by kernel_rfl)) ?_
  intro W base args ds gs before hval0 hW hcnd _
  have hval : ∀ (j : Nat) t v, Try.f6.params[j]? = some t → args[j]? = some v → Value.okWide Try.prog W .any base t v := hval0
  have hW' := hW
  obtain ⟨p, q, hA0, hV, rfl, hfz, hnd⟩ := hW
  have hA : DataW.TrodAll enc Try.prog W 0 (fun _ => true) true Try.f6.params.toList args.toList ds p := hA0
  rw [Try.params6] at hA hval
  obtain ⟨v0, vs0, d0, ds0, p0, q0, hargs, rfl, rfl, h0, r0⟩ := trodAll_cons hA
  obtain ⟨v1, vs1, d1, ds1, p1, q1, rfl, rfl, rfl, h1, r1⟩ := trodAll_cons r0
  obtain ⟨v2, vs2, d2, ds2, p2, q2, rfl, rfl, rfl, h2, r2⟩ := trodAll_cons r1
  obtain ⟨rfl, rfl, rfl⟩ := trodAll_nil r2
  obtain rfl : args = #[v0, v1, v2] := by cases args; simp_all
  obtain ⟨rfl, rfl⟩ := trodVars_none hV
  have k0 := h0
  have lt0 : ∀ x ∈ p0, x.block < W.heap.size := by obtain ⟨m, hm⟩ := k0; exact DataW.trod_lt m _ _ _ hm
  have k1 := h1
  have lt1 : ∀ x ∈ p1, x.block < W.heap.size := by obtain ⟨m, hm⟩ := k1; exact DataW.trod_lt m _ _ _ hm
  have k2 := h2
  have lt2 : ∀ x ∈ p2, x.block < W.heap.size := by obtain ⟨m, hm⟩ := k2; exact DataW.trod_lt m _ _ _ hm
  obtain ⟨b0, rfl, w0⟩ := Tx.open_box (hval 0 40 v0 rfl rfl) h0
  obtain ⟨c10, c11, c12, c13, y10, y11, y12, y13, m1, rfl, _, _, hy10, hy11, hy12, hy13⟩ := Go.Joins.open_agg4 Try.underlying38 (by kernel_rfl) (by kernel_rfl) (hval 1 38 v1 rfl rfl) h1
  obtain ⟨n10, e10, _, _⟩ := DataW.trod_int Try.underlying2 hy10
  obtain ⟨n11, e11, _, _⟩ := DataW.trod_int Try.underlying2 hy11
  obtain ⟨n12, e12, _, _⟩ := DataW.trod_int Try.underlying2 hy12
  obtain ⟨n13, e13, _, _⟩ := DataW.trod_int Try.underlying2 hy13
  simp only [List.cons.injEq, and_true] at e10 e11 e12 e13
  subst e10 e11 e12 e13
  obtain ⟨a2, rfl, rfl, rfl, w2⟩ := open_int Try.underlying2 (hval 2 2 v2 rfl rfl) h2
  clear hA0 hval0
  refine (walk W b0 w0 ⟨n10, n11, n12, n13⟩ a2 w2).mono fun e W' ⟨he, bel⟩ => ?_
  subst he
  exact ⟨_, rfl, _, _, _, [], _, [], hW', trodAll_mk1 (shut_bool Try.underlying4 _), (trodAll_cons_mk (Below.trod laidOut (by kernel_rfl) (of_decide_eq_true (by kernel_rfl)) k0 bel lt0) (trodAll_cons_mk (Below.trod laidOut (by kernel_rfl) (of_decide_eq_true (by kernel_rfl)) k1 bel lt1) (trodAll_cons_mk (Below.trod laidOut (by kernel_rfl) (of_decide_eq_true (by kernel_rfl)) k2 bel lt2) trodAll_mk0))), rfl, bel.frame _, fun h => by cases h⟩

theorem over : Rows.fnExactOpenedRow.holds Try.pinned (OpenSpec.ofChange Rows.fnExactOpenedSpec) :=
  OpenClaim.holds_of_wide 6 Try.f6 rfl rfl rfl rfl rfl rfl rfl ⟨rfl, rfl, rfl, rfl, rfl⟩ rfl rfl rfl rfl rfl (by kernel_rfl) Try.func6 (by kernel_rfl)
    (of_decide_eq_true (by kernel_rfl)) (by unfold Func.isWrapper; first | (rw [if_pos (by decide +kernel)]; kernel_rfl) | (rw [if_neg (by decide +kernel)]; exact ⟨rfl, rfl⟩))
    (fun os started H enc _ => lifted os started H enc)

end Go.Proofs.Ytfllkiidjahmjaa.fnExactOpened

namespace Go.Proofs.Ytfllkiidjahmjaa
theorem fnExactOpened_proved : Rows.FnExactOpenedSaid := fnExactOpened.over
#print axioms fnExactOpened_proved
end Go.Proofs.Ytfllkiidjahmjaa

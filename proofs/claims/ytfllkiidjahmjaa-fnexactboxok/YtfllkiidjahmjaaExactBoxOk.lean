/-
  The law FnExactBoxOk returns true at every box, and the box reads behind the call as it read before: BoxOk of the program and of the model answer alike. No condition.
-/
import Derived.Test.YtfllkiidjahmjaaRows
import Derived.WalkKit
import Derived.ProofKit
import Derived.OpenShut
import Derived.ShutString
import Derived.ChangeOld
import Derived.Below
import Derived.SliceStrings
import Derived.Lib.SmallJoins
import Derived.Test.YtfllkiidjahmjaaOpen4
import Derived.Test.YtfllkiidjahmjaaImpl4
namespace Go.Proofs.Ytfllkiidjahmjaa.fnExactBoxOk
open Go.ChangeShapes Go.WideShapes Go.ChangeAt Go.RowKit
open Go.ChangeMaps (open_string shut_string)
set_option linter.unusedVariables false

set_option maxHeartbeats 2000000 in
theorem walk (w : World) (b : Tx.BoxV) (hb : b.t.size ≤ maxLen) :
    Calls Try.prog 4 #[b.val] w fun e w' => e = .returned (.bool true) ∧ Below w.heap.size w w' := by
  obtain ⟨⟨u, s, h, a⟩, n, t, sp⟩ := b
  unfold maxLen at hb
  have hb' : t.size ≤ 9223372036854775807 := by have e : (2 : Nat) ^ 63 - 1 = 9223372036854775807 := rfl; rw [← e]; exact hb
  clear hb
  have HV : Hid (Tx.BoxV.val ⟨⟨u, s, h, a⟩, n, t, sp⟩ = .agg #[.int .i64 u, .int .i64 s, .int .i64 h, .int .i64 a, .int .i64 n, .string t, .bool sp]) := rfl
  have K0 := (Tx.Kp.start (w := w)).alloc (.cells #[.int .i64 u, .int .i64 s, .int .i64 h, .int .i64 a, .int .i64 n, .string t, .bool sp] 40)
  rw [HV.out]
  go_enter Try.func4, Try.ntmps4
  go_wp2_with fail
  refine (Tx.szBox_any ⟨⟨u, s, h, a⟩, n, t, sp⟩ hb' _ (by omega) (by omega) _).mono ?_
  rintro e w1 ⟨rfl, b1⟩
  have K1 := K0.go b1
  have G1 := Lib.hid (Tx.blk_on b1 (Tx.heap1 w _))
  clear b1
  obtain ⟨⟨a0, a1, a2, a3, a4, a5, a6⟩, _⟩ := Tx.blk7 G1.out
  obtain ⟨lf, hlf⟩ : ∃ lf, Tx.szLeft 1048576 t.size = lf := ⟨_, rfl⟩
  rw [hlf]
  clear hlf
  by_cases hl : lf < 0
  · go_wp2
    go_ret
    exact ⟨rfl, K1.bel⟩
  · go_wp2_with fail
    refine (Tx.toBox_any ⟨⟨u, s, h, a⟩, n, t, sp⟩ _).mono ?_
    rintro e w2 ⟨rfl, b2⟩
    have K2 := K1.go b2
    have G2 := Lib.hid (Tx.blk_on b2 G1.out)
    clear b2 a0 a1 a2 a3 a4 a5 a6
    rw [HV.out]
    go_wp2_with fail
    refine (Tx.BoxOk_spec ⟨⟨u, s, h, a⟩, n, t, sp⟩ _).mono ?_
    rintro e w3 ⟨rfl, b3⟩
    have K3 := K2.go b3
    obtain ⟨⟨a0, a1, a2, a3, a4, a5, a6⟩, _⟩ := Tx.blk7 (Tx.blk_on b3 G2.out)
    clear b3
    go_wp2_with fail
    refine (Tx.toBox_any ⟨⟨u, s, h, a⟩, n, t, sp⟩ _).mono ?_
    rintro e w4 ⟨rfl, b4⟩
    have K4 := K3.go b4
    clear b4 a0 a1 a2 a3 a4 a5 a6
    rw [HV.out]
    go_wp2_with fail
    refine (Tx.BoxOk_impl ⟨⟨u, s, h, a⟩, n, t, sp⟩ _).mono ?_
    rintro e w5 ⟨rfl, b5⟩
    have K5 := K4.go b5
    clear b5
    go_wp2
    go_ret
    exact ⟨rfl, K5.bel⟩

theorem own : ownKnob Try.prog.godebug = none := by kernel_rfl
theorem laidOut : laidOutB Try.prog = true := by kernel_rfl

set_option maxRecDepth 100000 in
theorem lifted (os : Os) (started : os.Started) (H : Type) (enc : TypeId × Value → H) :
    ReturnsInHanded {} Try.checked os 4 .any (Rows.fnExactBoxOkSpec.pre6 enc Try.prog Try.f4 Rows.fnExactBoxOkRow.domain false) (Rows.fnExactBoxOkSpec.post enc Try.prog Try.f4 false true false false) := by
  refine returnsInHanded_of_change (C := Try.checked) own started (by kernel_rfl) Try.func4
    (ChangeSpec.witness6 (enc := enc) (C := Try.checked) false ⟨#[], #[.agg #[.int .i64 0, .int .i64 0, .int .i64 0, .int .i64 0, .int .i64 0, .string ByteArray.empty, .bool false]], []⟩ 8 (by kernel_rfl) (by kernel_rfl) (by kernel_rfl) (by kernel_rfl)) ?_
  intro W base args ds gs before hval0 hW hcnd _
  have hval : ∀ (j : Nat) t v, Try.f4.params[j]? = some t → args[j]? = some v → Value.okWide Try.prog W .any base t v := hval0
  have hW' := hW
  obtain ⟨p, q, hA0, hV, rfl, hfz, hnd⟩ := hW
  have hA : DataW.TrodAll enc Try.prog W 0 (fun _ => true) true Try.f4.params.toList args.toList ds p := hA0
  rw [Try.params4] at hA hval
  obtain ⟨v0, vs0, d0, ds0, p0, q0, hargs, rfl, rfl, h0, r0⟩ := trodAll_cons hA
  obtain ⟨rfl, rfl, rfl⟩ := trodAll_nil r0
  obtain rfl : args = #[v0] := by cases args; simp_all
  obtain ⟨rfl, rfl⟩ := trodVars_none hV
  have k0 := h0
  have lt0 : ∀ x ∈ p0, x.block < W.heap.size := by obtain ⟨m, hm⟩ := k0; exact DataW.trod_lt m _ _ _ hm
  obtain ⟨b0, rfl, w0⟩ := Tx.open_box (hval 0 40 v0 rfl rfl) h0
  clear hA0 hval0
  refine (walk W b0 w0).mono fun e W' ⟨he, bel⟩ => ?_
  subst he
  exact ⟨_, rfl, _, _, _, [], _, [], hW', trodAll_mk1 (shut_bool Try.underlying4 _), (trodAll_cons_mk (Below.trod laidOut (by kernel_rfl) (of_decide_eq_true (by kernel_rfl)) k0 bel lt0) trodAll_mk0), rfl, bel.frame _, fun h => by cases h⟩

theorem over : Rows.fnExactBoxOkRow.holds Try.pinned (OpenSpec.ofChange Rows.fnExactBoxOkSpec) :=
  OpenClaim.holds_of_wide 4 Try.f4 rfl rfl rfl rfl rfl rfl rfl ⟨rfl, rfl, rfl, rfl, rfl⟩ rfl rfl rfl rfl rfl (by kernel_rfl) Try.func4 (by kernel_rfl)
    (of_decide_eq_true (by kernel_rfl)) (by unfold Func.isWrapper; first | (rw [if_pos (by decide +kernel)]; kernel_rfl) | (rw [if_neg (by decide +kernel)]; exact ⟨rfl, rfl⟩))
    (fun os started H enc _ => lifted os started H enc)

end Go.Proofs.Ytfllkiidjahmjaa.fnExactBoxOk

namespace Go.Proofs.Ytfllkiidjahmjaa
theorem fnExactBoxOk_proved : Rows.FnExactBoxOkSaid := fnExactBoxOk.over
#print axioms fnExactBoxOk_proved
end Go.Proofs.Ytfllkiidjahmjaa

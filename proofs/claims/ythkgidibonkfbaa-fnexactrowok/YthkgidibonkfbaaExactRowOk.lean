/-
  The law FnExactRowOk returns true at every row, and the row reads behind the call as it read before: RowOk of the program and of the model answer alike. No condition.
-/
import Derived.Test.YthkgidibonkfbaaRows
import Derived.WalkKit
import Derived.ProofKit
import Derived.OpenShut
import Derived.ShutString
import Derived.ChangeOld
import Derived.Below
import Derived.SliceStrings
import Derived.Lib.SmallJoins
import Derived.Test.YthkgidibonkfbaaOpen5
import Derived.Test.YthkgidibonkfbaaImpl5
namespace Go.Proofs.Ythkgidibonkfbaa.fnExactRowOk
open Go.ChangeShapes Go.WideShapes Go.ChangeAt Go.RowKit
open Go.ChangeMaps (open_string shut_string)
set_option linter.unusedVariables false

set_option maxHeartbeats 2000000 in
theorem walk (w : World) (r : Tx.RowV) (_ : True) :
    Calls Try.prog 4 #[r.val] w fun e w' => e = .returned (.bool true) ∧ Below w.heap.size w w' := by
  obtain ⟨⟨ru, rs, rh, ra⟩, rn⟩ := r
  have HV : Hid (Tx.RowV.val ⟨⟨ru, rs, rh, ra⟩, rn⟩ = .agg #[.int .i64 ru, .int .i64 rs, .int .i64 rh, .int .i64 ra, .int .i64 rn]) := rfl
  have K0 := (Tx.Kp.start (w := w)).alloc (.cells #[.int .i64 ru, .int .i64 rs, .int .i64 rh, .int .i64 ra, .int .i64 rn] 52)
  rw [HV.out]
  go_enter Try.func4, Try.ntmps4
  go_wp2_with fail
  refine (Tx.toRow_any ⟨⟨ru, rs, rh, ra⟩, rn⟩ _).mono ?_
  rintro e w1 ⟨rfl, b1⟩
  have K1 := K0.go b1
  have G1 := Lib.hid (Tx.blk_on b1 (Tx.heap1 w _))
  clear b1
  rw [HV.out]
  go_wp2_with fail
  refine (Tx.RowOk_spec ⟨⟨ru, rs, rh, ra⟩, rn⟩ _).mono ?_
  rintro e w2 ⟨rfl, b2⟩
  have K2 := K1.go b2
  obtain ⟨⟨a0, a1, a2, a3, a4⟩, _⟩ := Tx.blk5 (Tx.blk_on b2 G1.out)
  clear b2
  go_wp2_with fail
  refine (Tx.toRow_any ⟨⟨ru, rs, rh, ra⟩, rn⟩ _).mono ?_
  rintro e w3 ⟨rfl, b3⟩
  have K3 := K2.go b3
  clear b3 a0 a1 a2 a3 a4
  rw [HV.out]
  go_wp2_with fail
  refine (Tx.RowOk_impl ⟨⟨ru, rs, rh, ra⟩, rn⟩ _).mono ?_
  rintro e w4 ⟨rfl, b4⟩
  have K4 := K3.go b4
  clear b4
  go_wp2
  go_ret
  exact ⟨rfl, K4.bel⟩

theorem own : ownKnob Try.prog.godebug = none := by kernel_rfl
theorem laidOut : laidOutB Try.prog = true := by kernel_rfl

set_option maxRecDepth 100000 in
theorem lifted (os : Os) (started : os.Started) (H : Type) (enc : TypeId × Value → H) :
    ReturnsInHanded {} Try.checked os 4 .any (Rows.fnExactRowOkSpec.pre6 enc Try.prog Try.f4 Rows.fnExactRowOkRow.domain false) (Rows.fnExactRowOkSpec.post enc Try.prog Try.f4 false true false false) := by
  refine returnsInHanded_of_change (C := Try.checked) own started (by kernel_rfl) Try.func4
    (ChangeSpec.witness6 (enc := enc) (C := Try.checked) false ⟨#[], #[.agg #[.int .i64 0, .int .i64 0, .int .i64 0, .int .i64 0, .int .i64 0]], []⟩ 8 (by kernel_rfl) (by kernel_rfl) (by kernel_rfl) (by kernel_rfl)) ?_
  intro W base args ds gs before hval0 hW hcnd _
  have hval : ∀ (j : Nat) t v, Try.f4.params[j]? = some t → args[j]? = some v → Value.okWide Try.prog W .any base t v := hval0
  have hW' := hW
  obtain ⟨p, q, hA0, hV, rfl, hfz, hnd⟩ := hW
  have hA : DataW.TrodAll enc Try.prog W 0 (fun _ => true) true Try.f4.params.toList args.toList ds p := hA0
  rw [Try.params4] at hA hval
  obtain ⟨v0, vs0, d0, ds0, p0, q0, hargs, rfl, rfl, h0, r0⟩ := trodAll_cons hA
  obtain ⟨rfl, rfl, rfl⟩ := trodAll_nil r0
  obtain rfl : args = #[v0] := by cases args; simp_all
  obtain ⟨rfl, rfl⟩ := trodVars_none hV
  have k0 := h0
  have lt0 : ∀ x ∈ p0, x.block < W.heap.size := by obtain ⟨m, hm⟩ := k0; exact DataW.trod_lt m _ _ _ hm
  obtain ⟨b0, rfl, w0⟩ := Tx.open_row (hval 0 52 v0 rfl rfl) h0
  clear hA0 hval0
  refine (walk W b0 w0).mono fun e W' ⟨he, bel⟩ => ?_
  subst he
  exact ⟨_, rfl, _, _, _, [], _, [], hW', trodAll_mk1 (shut_bool Try.underlying4 _), (trodAll_cons_mk (Below.trod laidOut (by kernel_rfl) (of_decide_eq_true (by kernel_rfl)) k0 bel lt0) trodAll_mk0), rfl, bel.frame _, fun h => by cases h⟩

theorem over : Rows.fnExactRowOkRow.holds Try.pinned (OpenSpec.ofChange Rows.fnExactRowOkSpec) :=
  OpenClaim.holds_of_wide 4 Try.f4 rfl rfl rfl rfl rfl rfl rfl ⟨rfl, rfl, rfl, rfl, rfl⟩ rfl rfl rfl rfl rfl (by kernel_rfl) Try.func4 (by kernel_rfl)
    (of_decide_eq_true (by kernel_rfl)) (by unfold Func.isWrapper; first | (rw [if_pos (by decide +kernel)]; kernel_rfl) | (rw [if_neg (by decide +kernel)]; exact ⟨rfl, rfl⟩))
    (fun os started H enc _ => lifted os started H enc)

end Go.Proofs.Ythkgidibonkfbaa.fnExactRowOk

namespace Go.Proofs.Ythkgidibonkfbaa
theorem fnExactRowOk_proved : Rows.FnExactRowOkSaid := fnExactRowOk.over
#print axioms fnExactRowOk_proved
end Go.Proofs.Ythkgidibonkfbaa

/-
  The law FnExactNextKey returns true at every Key: NextKey of the program and of the model answer alike. No condition.
-/
import Derived.Test.YtdppkdldjkpmpaaRows
import Derived.WalkKit
import Derived.ProofKit
import Derived.OpenShut
import Derived.ShutString
import Derived.ChangeOld
import Derived.Below
import Derived.SliceStrings
import Derived.Lib.SmallJoins
import Derived.Test.YtdppkdldjkpmpaaImpl3n
namespace Go.Proofs.Ytdppkdldjkpmpaa.fnExactNextKey
open Go.ChangeShapes Go.WideShapes Go.ChangeAt Go.RowKit
open Go.ChangeMaps (open_string shut_string)
set_option linter.unusedVariables false

set_option maxHeartbeats 1000000 in
theorem walk (w : World) (k : Tx.KeyV) :
    Calls Try.prog 11 #[k.val] w fun e w' => e = .returned (.bool true) ∧ Below w.heap.size w w' := by
  obtain ⟨ku, ks, kh, ka⟩ := k
  have K0 := (Tx.Kp.start (w := w)).alloc (.cells #[.int .i64 ku, .int .i64 ks, .int .i64 kh, .int .i64 ka] 35)
  have HV : Hid (Tx.KeyV.val ⟨ku, ks, kh, ka⟩ = .agg #[.int .i64 ku, .int .i64 ks, .int .i64 kh, .int .i64 ka]) := rfl
  obtain ⟨⟨nu, ns, nh, na⟩, hnk⟩ : ∃ x, Tx.nextK ⟨ku, ks, kh, ka⟩ = x := ⟨_, rfl⟩
  have HN : Hid ((Tx.nextK ⟨ku, ks, kh, ka⟩).val = .agg #[.int .i64 nu, .int .i64 ns, .int .i64 nh, .int .i64 na]) := by show _ = _; rw [hnk]; rfl
  clear hnk
  rw [HV.out]
  go_enter Try.func11, Try.ntmps11
  go_wp2_with fail
  refine (Tx.toKey_any ⟨ku, ks, kh, ka⟩ _).mono ?_
  rintro e w1 ⟨rfl, b1⟩
  have K1 := K0.go b1
  have L1 := Tx.Kp.start.go b1
  rw [HV.out]
  clear b1
  go_wp2_with fail
  refine (Tx.NextKey_spec ⟨ku, ks, kh, ka⟩ _).mono ?_
  rintro e w2 ⟨rfl, b2⟩
  rw [HN.out]
  have K2 := (K1.go b2).alloc (.cells #[.int .i64 nu, .int .i64 ns, .int .i64 nh, .int .i64 na] 27)
  have L2 := L1.go b2
  obtain ⟨⟨c0, c1, c2, c3⟩, _⟩ := Tx.blk4 ((L2.bel.block w.heap.size (by simp)).trans (Tx.heap1 w _))
  have hz2 : w.heap.size < w2.heap.size := by have := L2.bel.size; simp at this; omega
  clear b2 L1
  go_wp2_with fail
  refine (Tx.toKey_any ⟨ku, ks, kh, ka⟩ _).mono ?_
  rintro e w3 ⟨rfl, b3⟩
  have K3 := K2.go b3
  have M3 := Tx.Kp.start.go b3
  rw [HV.out]
  clear b3
  go_wp2_with fail
  refine (Tx.NextKey_impl ⟨ku, ks, kh, ka⟩ _).mono ?_
  rintro e w4 ⟨rfl, b4⟩
  rw [HN.out]
  have K4 := (K3.go b4).alloc (.cells #[.int .i64 nu, .int .i64 ns, .int .i64 nh, .int .i64 na] 27)
  have M4 := M3.go b4
  obtain ⟨⟨d0, d1, d2, d3⟩, _⟩ := Tx.blk4 ((M4.bel.block w2.heap.size (by simp)).trans (Tx.heap1 w2 _))
  have hz4 : w2.heap.size < w4.heap.size := by have := M4.bel.size; simp at this; omega
  clear b4 M3 L2 c0 c1 c2 c3
  go_wp2_with fail
  refine (Tx.eqKey_same ⟨nu, ns, nh, na⟩ _).mono ?_
  rintro e w5 ⟨rfl, b5⟩
  have K5 := K4.go b5
  clear b5
  go_wp2
  go_ret
  exact ⟨rfl, K5.bel⟩

theorem own : ownKnob Try.prog.godebug = none := by kernel_rfl
theorem laidOut : laidOutB Try.prog = true := by kernel_rfl

set_option maxRecDepth 100000 in
theorem lifted (os : Os) (started : os.Started) (H : Type) (enc : TypeId × Value → H) :
    ReturnsInHanded {} Try.checked os 11 .any (Rows.fnExactNextKeySpec.pre6 enc Try.prog Try.f11 Rows.fnExactNextKeyRow.domain false) (Rows.fnExactNextKeySpec.post enc Try.prog Try.f11 false true false false) := by
  refine returnsInHanded_of_change (C := Try.checked) own started (by kernel_rfl) Try.func11
    (ChangeSpec.witness6 (enc := enc) (C := Try.checked) false ⟨#[], #[.agg #[.int .i64 0, .int .i64 0, .int .i64 0, .int .i64 0]], []⟩ 8 (by kernel_rfl) (by kernel_rfl) (by kernel_rfl) (by kernel_rfl)) ?_
  intro W base args ds gs before hval0 hW hcnd _
  have hval : ∀ (j : Nat) t v, Try.f11.params[j]? = some t → args[j]? = some v → Value.okWide Try.prog W .any base t v := hval0
  have hW' := hW
  obtain ⟨p, q, hA0, hV, rfl, hfz, hnd⟩ := hW
  have hA : DataW.TrodAll enc Try.prog W 0 (fun _ => true) true Try.f11.params.toList args.toList ds p := hA0
  rw [Try.params11] at hA hval
  obtain ⟨v0, vs0, d0, ds0, p0, q0, hargs, rfl, rfl, h0, r0⟩ := trodAll_cons hA
  obtain ⟨rfl, rfl, rfl⟩ := trodAll_nil r0
  obtain rfl : args = #[v0] := by cases args; simp_all
  obtain ⟨rfl, rfl⟩ := trodVars_none hV
  have k0 := h0
  have lt0 : ∀ x ∈ p0, x.block < W.heap.size := by obtain ⟨m, hm⟩ := k0; exact DataW.trod_lt m _ _ _ hm
  obtain ⟨c00, c01, c02, c03, y00, y01, y02, y03, m0, rfl, _, _, hy00, hy01, hy02, hy03⟩ := Go.Joins.open_agg4 Try.underlying35 (by kernel_rfl) (by kernel_rfl) (hval 0 35 v0 rfl rfl) h0
  obtain ⟨n00, e00, _, _⟩ := DataW.trod_int Try.underlying2 hy00
  obtain ⟨n01, e01, _, _⟩ := DataW.trod_int Try.underlying2 hy01
  obtain ⟨n02, e02, _, _⟩ := DataW.trod_int Try.underlying2 hy02
  obtain ⟨n03, e03, _, _⟩ := DataW.trod_int Try.underlying2 hy03
  simp only [List.cons.injEq, and_true] at e00 e01 e02 e03
  subst e00 e01 e02 e03
  clear hA0 hval0
  refine (walk W ⟨n00, n01, n02, n03⟩).mono fun e W' ⟨he, bel⟩ => ?_
  subst he
  exact ⟨_, rfl, _, _, _, [], _, [], hW', trodAll_mk1 (shut_bool Try.underlying4 _), (trodAll_cons_mk (Below.trod laidOut (by kernel_rfl) (of_decide_eq_true (by kernel_rfl)) k0 bel lt0) trodAll_mk0), rfl, bel.frame _, fun h => by cases h⟩

theorem over : Rows.fnExactNextKeyRow.holds Try.pinned (OpenSpec.ofChange Rows.fnExactNextKeySpec) :=
  OpenClaim.holds_of_wide 11 Try.f11 rfl rfl rfl rfl rfl rfl rfl ⟨rfl, rfl, rfl, rfl, rfl⟩ rfl rfl rfl rfl rfl (by kernel_rfl) Try.func11 (by kernel_rfl)
    (of_decide_eq_true (by kernel_rfl)) (by unfold Func.isWrapper; first | (rw [if_pos (by decide +kernel)]; kernel_rfl) | (rw [if_neg (by decide +kernel)]; exact ⟨rfl, rfl⟩))
    (fun os started H enc _ => lifted os started H enc)

end Go.Proofs.Ytdppkdldjkpmpaa.fnExactNextKey

namespace Go.Proofs.Ytdppkdldjkpmpaa
theorem fnExactNextKey_proved : Rows.FnExactNextKeySaid := fnExactNextKey.over
#print axioms fnExactNextKey_proved
end Go.Proofs.Ytdppkdldjkpmpaa

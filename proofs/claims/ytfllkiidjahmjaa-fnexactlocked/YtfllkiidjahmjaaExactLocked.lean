/-
  The law FnExactLocked returns true at every key, number and text, and they read behind the call as they read before: Locked of the program and of the model answer alike. No condition.
-/
import Derived.Test.YtfllkiidjahmjaaRows
import Derived.WalkKit
import Derived.ProofKit
import Derived.OpenShut
import Derived.ShutString
import Derived.ChangeOld
import Derived.Below
import Derived.SliceStrings
import Derived.Lib.SmallJoins
import Derived.Test.YtfllkiidjahmjaaOpen4
import Derived.Test.YtfllkiidjahmjaaImpl4
namespace Go.Proofs.Ytfllkiidjahmjaa.fnExactLocked
open Go.ChangeShapes Go.WideShapes Go.ChangeAt Go.RowKit
open Go.ChangeMaps (open_string shut_string)
set_option linter.unusedVariables false

set_option maxHeartbeats 2000000 in
theorem walk (w : World) (k : Tx.KeyV) (no : Int) (hno : (Lit.int .i64 no).wf = true) (t : ByteArray) (ht : t.size ≤ maxLen) :
    Calls Try.prog 5 #[k.val, .int .i64 no, .string t] w fun e w' => e = .returned (.bool true) ∧ Below w.heap.size w w' := by
  obtain ⟨u, s, h, a⟩ := k
  have HV : Hid (Tx.KeyV.val ⟨u, s, h, a⟩ = .agg #[.int .i64 u, .int .i64 s, .int .i64 h, .int .i64 a]) := rfl
  have K0 := (Tx.Kp.start (w := w)).alloc (.cells #[.int .i64 u, .int .i64 s, .int .i64 h, .int .i64 a] 38)
  rw [HV.out]
  clear hno ht
  by_cases hl : (1048576 : Int) < (t.size : Int)
  · go_enter Try.func5, Try.ntmps5
    go_wp2
    go_ret
    exact ⟨rfl, K0.bel⟩
  · go_enter Try.func5, Try.ntmps5
    go_wp2_with fail
    refine (Tx.toKey_any ⟨u, s, h, a⟩ _).mono ?_
    rintro e w1 ⟨rfl, b1⟩
    have K1 := K0.go b1
    have G1 := Lib.hid (Tx.blk_on b1 (Tx.heap1 w _))
    clear b1
    rw [HV.out]
    go_wp2_with fail
    refine (Tx.Locked_spec ⟨u, s, h, a⟩ no t _).mono ?_
    rintro e w2 ⟨rfl, b2⟩
    obtain ⟨⟨⟨xu, xs, xh, xa⟩, xn, xt, xp⟩, hx⟩ : ∃ x, Tx.lockV ⟨⟨u, s, h, a⟩, no, t, false⟩ = x := ⟨_, rfl⟩
    obtain ⟨ok, hok⟩ : ∃ x, Tx.boxOkB ⟨⟨u, s, h, a⟩, no, t, false⟩ = x := ⟨_, rfl⟩
    have HX := Lib.hid hx
    have HOK := Lib.hid hok
    have HXV : Hid (Tx.BoxV.val ⟨⟨xu, xs, xh, xa⟩, xn, xt, xp⟩ = .agg #[.int .i64 xu, .int .i64 xs, .int .i64 xh, .int .i64 xa, .int .i64 xn, .string xt, .bool xp]) := rfl
    rw [hx, hok, HXV.out]
    clear hx hok
    obtain ⟨W2, hW2⟩ : ∃ W, w2.alloc (.cells #[.int .i64 xu, .int .i64 xs, .int .i64 xh, .int .i64 xa, .int .i64 xn, .string xt, .bool xp] 29) = W := ⟨_, rfl⟩
    have K2 := (K1.go b2).alloc (.cells #[.int .i64 xu, .int .i64 xs, .int .i64 xh, .int .i64 xa, .int .i64 xn, .string xt, .bool xp] 29)
    have G2 := Lib.hid (Tx.alloc_blk (o := .cells #[.int .i64 xu, .int .i64 xs, .int .i64 xh, .int .i64 xa, .int .i64 xn, .string xt, .bool xp] 29) (Tx.blk_on b2 G1.out))
    have H2 := Lib.hid (Tx.heap1 w2 (.cells #[.int .i64 xu, .int .i64 xs, .int .i64 xh, .int .i64 xa, .int .i64 xn, .string xt, .bool xp] 29))
    rw [hW2] at K2 G2 H2
    obtain ⟨⟨a0, a1, a2, a3⟩, _⟩ := Tx.blk4 G2.out
    clear b2
    go_wp2_with fail
    clear hW2
    refine (Tx.toKey_any ⟨u, s, h, a⟩ _).mono ?_
    rintro e w3 ⟨rfl, b3⟩
    have K3 := K2.go b3
    have H3 := Lib.hid (Tx.blk_on b3 H2.out)
    clear b3 a0 a1 a2 a3
    rw [HV.out]
    go_wp2_with fail
    refine (Tx.Locked_impl ⟨u, s, h, a⟩ no t _).mono ?_
    rintro e w4 ⟨rfl, b4⟩
    rw [HX.out, HOK.out, HXV.out]
    obtain ⟨W4, hW4⟩ : ∃ W, w4.alloc (.cells #[.int .i64 xu, .int .i64 xs, .int .i64 xh, .int .i64 xa, .int .i64 xn, .string xt, .bool xp] 29) = W := ⟨_, rfl⟩
    have K4 := (K3.go b4).alloc (.cells #[.int .i64 xu, .int .i64 xs, .int .i64 xh, .int .i64 xa, .int .i64 xn, .string xt, .bool xp] 29)
    have H4 := Lib.hid (Tx.alloc_blk (o := .cells #[.int .i64 xu, .int .i64 xs, .int .i64 xh, .int .i64 xa, .int .i64 xn, .string xt, .bool xp] 29) (Tx.blk_on b4 H3.out))
    have I4 := Lib.hid (Tx.heap1 w4 (.cells #[.int .i64 xu, .int .i64 xs, .int .i64 xh, .int .i64 xa, .int .i64 xn, .string xt, .bool xp] 29))
    rw [hW4] at K4 H4 I4
    obtain ⟨⟨c0, c1, c2, c3, c4, c5, c6⟩, _⟩ := Tx.blk7 H4.out
    obtain ⟨⟨d0, d1, d2, d3, d4, d5, d6⟩, _⟩ := Tx.blk7 I4.out
    clear b4
    go_wp2_with fail
    clear hW4
    refine (Tx.eqBox_same ⟨⟨xu, xs, xh, xa⟩, xn, xt, xp⟩ _).mono ?_
    rintro e w5 ⟨rfl, b5⟩
    have K5 := K4.go b5
    clear b5
    go_wp2
    go_ret
    exact ⟨rfl, K5.bel⟩

theorem own : ownKnob Try.prog.godebug = none := by kernel_rfl
theorem laidOut : laidOutB Try.prog = true := by kernel_rfl

set_option maxRecDepth 100000 in
theorem lifted (os : Os) (started : os.Started) (H : Type) (enc : TypeId × Value → H) :
    ReturnsInHanded {} Try.checked os 5 .any (Rows.fnExactLockedSpec.pre6 enc Try.prog Try.f5 Rows.fnExactLockedRow.domain false) (Rows.fnExactLockedSpec.post enc Try.prog Try.f5 false true false false) := by
  refine returnsInHanded_of_change (C := Try.checked) own started (by kernel_rfl) Try.func5
    (ChangeSpec.witness6 (enc := enc) (C := Try.checked) false ⟨#[], #[.agg #[.int .i64 0, .int .i64 0, .int .i64 0, .int .i64 0], .int .i64 0, .string ByteArray.empty], []⟩ 8 (by kernel_rfl) (by kernel_rfl) (by kernel_rfl) (by kernel_rfl)) ?_
  intro W base args ds gs before hval0 hW hcnd _
  have hval : ∀ (j : Nat) t v, Try.f5.params[j]? = some t → args[j]? = some v → Value.okWide Try.prog W .any base t v := hval0
  have hW' := hW
  obtain ⟨p, q, hA0, hV, rfl, hfz, hnd⟩ := hW
  have hA : DataW.TrodAll enc Try.prog W 0 (fun _ => true) true Try.f5.params.toList args.toList ds p := hA0
  rw [Try.params5] at hA hval
  obtain ⟨v0, vs0, d0, ds0, p0, q0, hargs, rfl, rfl, h0, r0⟩ := trodAll_cons hA
  obtain ⟨v1, vs1, d1, ds1, p1, q1, rfl, rfl, rfl, h1, r1⟩ := trodAll_cons r0
  obtain ⟨v2, vs2, d2, ds2, p2, q2, rfl, rfl, rfl, h2, r2⟩ := trodAll_cons r1
  obtain ⟨rfl, rfl, rfl⟩ := trodAll_nil r2
  obtain rfl : args = #[v0, v1, v2] := by cases args; simp_all
  obtain ⟨rfl, rfl⟩ := trodVars_none hV
  have k0 := h0
  have lt0 : ∀ x ∈ p0, x.block < W.heap.size := by obtain ⟨m, hm⟩ := k0; exact DataW.trod_lt m _ _ _ hm
  have k1 := h1
  have lt1 : ∀ x ∈ p1, x.block < W.heap.size := by obtain ⟨m, hm⟩ := k1; exact DataW.trod_lt m _ _ _ hm
  have k2 := h2
  have lt2 : ∀ x ∈ p2, x.block < W.heap.size := by obtain ⟨m, hm⟩ := k2; exact DataW.trod_lt m _ _ _ hm
  obtain ⟨c00, c01, c02, c03, y00, y01, y02, y03, m0, rfl, _, _, hy00, hy01, hy02, hy03⟩ := Go.Joins.open_agg4 Try.underlying38 (by kernel_rfl) (by kernel_rfl) (hval 0 38 v0 rfl rfl) h0
  obtain ⟨n00, e00, _, _⟩ := DataW.trod_int Try.underlying2 hy00
  obtain ⟨n01, e01, _, _⟩ := DataW.trod_int Try.underlying2 hy01
  obtain ⟨n02, e02, _, _⟩ := DataW.trod_int Try.underlying2 hy02
  obtain ⟨n03, e03, _, _⟩ := DataW.trod_int Try.underlying2 hy03
  simp only [List.cons.injEq, and_true] at e00 e01 e02 e03
  subst e00 e01 e02 e03
  obtain ⟨a1, rfl, rfl, rfl, w1⟩ := open_int Try.underlying2 (hval 1 2 v1 rfl rfl) h1
  obtain ⟨a2, rfl, rfl, rfl, w2⟩ := open_string Try.underlying9 (hval 2 9 v2 rfl rfl) h2
  clear hA0 hval0
  refine (walk W ⟨n00, n01, n02, n03⟩ a1 w1 a2 w2).mono fun e W' ⟨he, bel⟩ => ?_
  subst he
  exact ⟨_, rfl, _, _, _, [], _, [], hW', trodAll_mk1 (shut_bool Try.underlying4 _), (trodAll_cons_mk (Below.trod laidOut (by kernel_rfl) (of_decide_eq_true (by kernel_rfl)) k0 bel lt0) (trodAll_cons_mk (Below.trod laidOut (by kernel_rfl) (of_decide_eq_true (by kernel_rfl)) k1 bel lt1) (trodAll_cons_mk (Below.trod laidOut (by kernel_rfl) (of_decide_eq_true (by kernel_rfl)) k2 bel lt2) trodAll_mk0))), rfl, bel.frame _, fun h => by cases h⟩

theorem over : Rows.fnExactLockedRow.holds Try.pinned (OpenSpec.ofChange Rows.fnExactLockedSpec) :=
  OpenClaim.holds_of_wide 5 Try.f5 rfl rfl rfl rfl rfl rfl rfl ⟨rfl, rfl, rfl, rfl, rfl⟩ rfl rfl rfl rfl rfl (by kernel_rfl) Try.func5 (by kernel_rfl)
    (of_decide_eq_true (by kernel_rfl)) (by unfold Func.isWrapper; first | (rw [if_pos (by decide +kernel)]; kernel_rfl) | (rw [if_neg (by decide +kernel)]; exact ⟨rfl, rfl⟩))
    (fun os started H enc _ => lifted os started H enc)

end Go.Proofs.Ytfllkiidjahmjaa.fnExactLocked

namespace Go.Proofs.Ytfllkiidjahmjaa
theorem fnExactLocked_proved : Rows.FnExactLockedSaid := fnExactLocked.over
#print axioms fnExactLocked_proved
end Go.Proofs.Ytfllkiidjahmjaa

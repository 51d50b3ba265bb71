/-
  The law FnExactPut returns true at every row and text, and they read behind the call as they read before: Put of the program and of the model answer alike. No condition.
-/
import Derived.Test.YthkgidibonkfbaaRows
import Derived.WalkKit
import Derived.ProofKit
import Derived.OpenShut
import Derived.ShutString
import Derived.ChangeOld
import Derived.Below
import Derived.SliceStrings
import Derived.Lib.SmallJoins
import Derived.Test.YthkgidibonkfbaaOpen5
import Derived.Test.YthkgidibonkfbaaImpl5
namespace Go.Proofs.Ythkgidibonkfbaa.fnExactPut
open Go.ChangeShapes Go.WideShapes Go.ChangeAt Go.RowKit
open Go.ChangeMaps (open_string shut_string)
set_option linter.unusedVariables false

set_option maxHeartbeats 4000000 in
theorem walk (w : World) (r : Tx.RowV) (_ : True) (t : ByteArray) (ht : t.size ≤ maxLen) :
    Calls Try.prog 5 #[r.val, .string t] w fun e w' => e = .returned (.bool true) ∧ Below w.heap.size w w' := by
  obtain ⟨⟨ru, rs, rh, ra⟩, rn⟩ := r
  clear ht
  have HV : Hid (Tx.RowV.val ⟨⟨ru, rs, rh, ra⟩, rn⟩ = .agg #[.int .i64 ru, .int .i64 rs, .int .i64 rh, .int .i64 ra, .int .i64 rn]) := rfl
  have K0 := (Tx.Kp.start (w := w)).alloc (.cells #[.int .i64 ru, .int .i64 rs, .int .i64 rh, .int .i64 ra, .int .i64 rn] 52)
  rw [HV.out]
  by_cases hl : (1048576 : Int) < (t.size : Int)
  · go_enter Try.func5, Try.ntmps5
    go_wp2
    go_ret
    exact ⟨rfl, K0.bel⟩
  · go_enter Try.func5, Try.ntmps5
    go_wp2_with fail
    refine (Tx.toRow_any ⟨⟨ru, rs, rh, ra⟩, rn⟩ _).mono ?_
    rintro e w1 ⟨rfl, b1⟩
    have K1 := K0.go b1
    have G1 := Lib.hid (Tx.blk_on b1 (Tx.heap1 w _))
    clear b1
    rw [HV.out]
    go_wp2_with fail
    refine (Tx.Put_spec ⟨⟨ru, rs, rh, ra⟩, rn⟩ t _).mono ?_
    rintro e w2 ⟨rfl, b2⟩
    obtain ⟨⟨⟨qu, qs, qh, qa⟩, qn⟩, hq⟩ : ∃ x, Tx.putR ⟨⟨ru, rs, rh, ra⟩, rn⟩ t = x := ⟨_, rfl⟩
    obtain ⟨⟨⟨xu, xs, xh, xa⟩, xn, xt, xp⟩, hx⟩ : ∃ x, Tx.putX ⟨⟨ru, rs, rh, ra⟩, rn⟩ t = x := ⟨_, rfl⟩
    obtain ⟨ok, hok⟩ : ∃ x, Tx.putB ⟨⟨ru, rs, rh, ra⟩, rn⟩ t = x := ⟨_, rfl⟩
    have HQ := Lib.hid hq
    have HX := Lib.hid hx
    have HOK := Lib.hid hok
    have HQ_V : Hid (Tx.RowV.val ⟨⟨qu, qs, qh, qa⟩, qn⟩ = .agg #[.int .i64 qu, .int .i64 qs, .int .i64 qh, .int .i64 qa, .int .i64 qn]) := rfl
    have HX_V : Hid (Tx.BoxV.val ⟨⟨xu, xs, xh, xa⟩, xn, xt, xp⟩ = .agg #[.int .i64 xu, .int .i64 xs, .int .i64 xh, .int .i64 xa, .int .i64 xn, .string xt, .bool xp]) := rfl
    rw [hq, hx, hok, HQ_V.out, HX_V.out]
    clear hq hx hok
    obtain ⟨W2, hW2⟩ : ∃ W, (w2.alloc (.cells #[.int .i64 qu, .int .i64 qs, .int .i64 qh, .int .i64 qa, .int .i64 qn] 27)).alloc (.cells #[.int .i64 xu, .int .i64 xs, .int .i64 xh, .int .i64 xa, .int .i64 xn, .string xt, .bool xp] 39) = W := ⟨_, rfl⟩
    have K2 := ((K1.go b2).alloc (.cells #[.int .i64 qu, .int .i64 qs, .int .i64 qh, .int .i64 qa, .int .i64 qn] 27)).alloc (.cells #[.int .i64 xu, .int .i64 xs, .int .i64 xh, .int .i64 xa, .int .i64 xn, .string xt, .bool xp] 39)
    have G2 := Lib.hid (Tx.alloc_blk (o := .cells #[.int .i64 xu, .int .i64 xs, .int .i64 xh, .int .i64 xa, .int .i64 xn, .string xt, .bool xp] 39) (Tx.alloc_blk (o := .cells #[.int .i64 qu, .int .i64 qs, .int .i64 qh, .int .i64 qa, .int .i64 qn] 27) (Tx.blk_on b2 G1.out)))
    have H2 := Lib.hid (Tx.heap2a w2 (.cells #[.int .i64 qu, .int .i64 qs, .int .i64 qh, .int .i64 qa, .int .i64 qn] 27) (.cells #[.int .i64 xu, .int .i64 xs, .int .i64 xh, .int .i64 xa, .int .i64 xn, .string xt, .bool xp] 39))
    have I2 := Lib.hid (Tx.heap2b w2 (.cells #[.int .i64 qu, .int .i64 qs, .int .i64 qh, .int .i64 qa, .int .i64 qn] 27) (.cells #[.int .i64 xu, .int .i64 xs, .int .i64 xh, .int .i64 xa, .int .i64 xn, .string xt, .bool xp] 39))
    rw [hW2] at K2 G2 H2 I2
    obtain ⟨⟨a0, a1, a2, a3, a4⟩, _⟩ := Tx.blk5 G2.out
    clear b2
    go_wp2_with fail
    clear hW2
    refine (Tx.toRow_any ⟨⟨ru, rs, rh, ra⟩, rn⟩ _).mono ?_
    rintro e w3 ⟨rfl, b3⟩
    have K3 := K2.go b3
    have H3 := Lib.hid (Tx.blk_on b3 H2.out)
    have I3 := Lib.hid (Tx.blk_on b3 I2.out)
    clear b3 a0 a1 a2 a3 a4
    rw [HV.out]
    go_wp2_with fail
    refine (Tx.Put_impl ⟨⟨ru, rs, rh, ra⟩, rn⟩ t _).mono ?_
    rintro e w4 ⟨rfl, b4⟩
    rw [HQ.out, HX.out, HOK.out, HQ_V.out, HX_V.out]
    obtain ⟨W4, hW4⟩ : ∃ W, (w4.alloc (.cells #[.int .i64 qu, .int .i64 qs, .int .i64 qh, .int .i64 qa, .int .i64 qn] 27)).alloc (.cells #[.int .i64 xu, .int .i64 xs, .int .i64 xh, .int .i64 xa, .int .i64 xn, .string xt, .bool xp] 39) = W := ⟨_, rfl⟩
    have K4 := ((K3.go b4).alloc (.cells #[.int .i64 qu, .int .i64 qs, .int .i64 qh, .int .i64 qa, .int .i64 qn] 27)).alloc (.cells #[.int .i64 xu, .int .i64 xs, .int .i64 xh, .int .i64 xa, .int .i64 xn, .string xt, .bool xp] 39)
    have H4 := Lib.hid (Tx.alloc_blk (o := .cells #[.int .i64 xu, .int .i64 xs, .int .i64 xh, .int .i64 xa, .int .i64 xn, .string xt, .bool xp] 39) (Tx.alloc_blk (o := .cells #[.int .i64 qu, .int .i64 qs, .int .i64 qh, .int .i64 qa, .int .i64 qn] 27) (Tx.blk_on b4 H3.out)))
    have I4 := Lib.hid (Tx.alloc_blk (o := .cells #[.int .i64 xu, .int .i64 xs, .int .i64 xh, .int .i64 xa, .int .i64 xn, .string xt, .bool xp] 39) (Tx.alloc_blk (o := .cells #[.int .i64 qu, .int .i64 qs, .int .i64 qh, .int .i64 qa, .int .i64 qn] 27) (Tx.blk_on b4 I3.out)))
    have J4 := Lib.hid (Tx.heap2a w4 (.cells #[.int .i64 qu, .int .i64 qs, .int .i64 qh, .int .i64 qa, .int .i64 qn] 27) (.cells #[.int .i64 xu, .int .i64 xs, .int .i64 xh, .int .i64 xa, .int .i64 xn, .string xt, .bool xp] 39))
    have M4 := Lib.hid (Tx.heap2b w4 (.cells #[.int .i64 qu, .int .i64 qs, .int .i64 qh, .int .i64 qa, .int .i64 qn] 27) (.cells #[.int .i64 xu, .int .i64 xs, .int .i64 xh, .int .i64 xa, .int .i64 xn, .string xt, .bool xp] 39))
    rw [hW4] at K4 H4 I4 J4 M4
    obtain ⟨⟨c0, c1, c2, c3, c4⟩, _⟩ := Tx.blk5 H4.out
    obtain ⟨⟨d0, d1, d2, d3, d4⟩, _⟩ := Tx.blk5 J4.out
    clear b4
    go_wp2_with fail
    clear hW4
    refine (Tx.eqRow_same ⟨⟨qu, qs, qh, qa⟩, qn⟩ _).mono ?_
    rintro e w5 ⟨rfl, b5⟩
    have K5 := K4.go b5
    obtain ⟨⟨e0, e1, e2, e3, e4, e5, e6⟩, _⟩ := Tx.blk7 (Tx.blk_on b5 I4.out)
    obtain ⟨⟨f0, f1, f2, f3, f4, f5, f6⟩, _⟩ := Tx.blk7 (Tx.blk_on b5 M4.out)
    clear b5
    go_wp2_with fail
    refine (Tx.eqBox_same ⟨⟨xu, xs, xh, xa⟩, xn, xt, xp⟩ _).mono ?_
    rintro e w6 ⟨rfl, b6⟩
    have K6 := K5.go b6
    clear b6
    go_wp2
    go_ret
    exact ⟨rfl, K6.bel⟩

theorem own : ownKnob Try.prog.godebug = none := by kernel_rfl
theorem laidOut : laidOutB Try.prog = true := by kernel_rfl

set_option maxRecDepth 100000 in
theorem lifted (os : Os) (started : os.Started) (H : Type) (enc : TypeId × Value → H) :
    ReturnsInHanded {} Try.checked os 5 .any (Rows.fnExactPutSpec.pre6 enc Try.prog Try.f5 Rows.fnExactPutRow.domain false) (Rows.fnExactPutSpec.post enc Try.prog Try.f5 false true false false) := by
  refine returnsInHanded_of_change (C := Try.checked) own started (by kernel_rfl) Try.func5
    (ChangeSpec.witness6 (enc := enc) (C := Try.checked) false ⟨#[], #[.agg #[.int .i64 0, .int .i64 0, .int .i64 0, .int .i64 0, .int .i64 0], .string ByteArray.empty], []⟩ 8 (by kernel_rfl) (by kernel_rfl) (by kernel_rfl) (by kernel_rfl)) ?_
  intro W base args ds gs before hval0 hW hcnd _
  have hval : ∀ (j : Nat) t v, Try.f5.params[j]? = some t → args[j]? = some v → Value.okWide Try.prog W .any base t v := hval0
  have hW' := hW
  obtain ⟨p, q, hA0, hV, rfl, hfz, hnd⟩ := hW
  have hA : DataW.TrodAll enc Try.prog W 0 (fun _ => true) true Try.f5.params.toList args.toList ds p := hA0
  rw [Try.params5] at hA hval
  obtain ⟨v0, vs0, d0, ds0, p0, q0, hargs, rfl, rfl, h0, r0⟩ := trodAll_cons hA
  obtain ⟨v1, vs1, d1, ds1, p1, q1, rfl, rfl, rfl, h1, r1⟩ := trodAll_cons r0
  obtain ⟨rfl, rfl, rfl⟩ := trodAll_nil r1
  obtain rfl : args = #[v0, v1] := by cases args; simp_all
  obtain ⟨rfl, rfl⟩ := trodVars_none hV
  have k0 := h0
  have lt0 : ∀ x ∈ p0, x.block < W.heap.size := by obtain ⟨m, hm⟩ := k0; exact DataW.trod_lt m _ _ _ hm
  have k1 := h1
  have lt1 : ∀ x ∈ p1, x.block < W.heap.size := by obtain ⟨m, hm⟩ := k1; exact DataW.trod_lt m _ _ _ hm
  obtain ⟨b0, rfl, w0⟩ := Tx.open_row (hval 0 52 v0 rfl rfl) h0
  obtain ⟨a1, rfl, rfl, rfl, w1⟩ := open_string Try.underlying9 (hval 1 9 v1 rfl rfl) h1
  clear hA0 hval0
  refine (walk W b0 w0 a1 w1).mono fun e W' ⟨he, bel⟩ => ?_
  subst he
  exact ⟨_, rfl, _, _, _, [], _, [], hW', trodAll_mk1 (shut_bool Try.underlying4 _), (trodAll_cons_mk (Below.trod laidOut (by kernel_rfl) (of_decide_eq_true (by kernel_rfl)) k0 bel lt0) (trodAll_cons_mk (Below.trod laidOut (by kernel_rfl) (of_decide_eq_true (by kernel_rfl)) k1 bel lt1) trodAll_mk0)), rfl, bel.frame _, fun h => by cases h⟩

theorem over : Rows.fnExactPutRow.holds Try.pinned (OpenSpec.ofChange Rows.fnExactPutSpec) :=
  OpenClaim.holds_of_wide 5 Try.f5 rfl rfl rfl rfl rfl rfl rfl ⟨rfl, rfl, rfl, rfl, rfl⟩ rfl rfl rfl rfl rfl (by kernel_rfl) Try.func5 (by kernel_rfl)
    (of_decide_eq_true (by kernel_rfl)) (by unfold Func.isWrapper; first | (rw [if_pos (by decide +kernel)]; kernel_rfl) | (rw [if_neg (by decide +kernel)]; exact ⟨rfl, rfl⟩))
    (fun os started H enc _ => lifted os started H enc)

end Go.Proofs.Ythkgidibonkfbaa.fnExactPut

namespace Go.Proofs.Ythkgidibonkfbaa
theorem fnExactPut_proved : Rows.FnExactPutSaid := fnExactPut.over
#print axioms fnExactPut_proved
end Go.Proofs.Ythkgidibonkfbaa

/-
  The law FnExactAnswerOk returns true at every answer, and they read behind the call as they read before: AnswerOk of the program and of the model answer alike. No condition.
-/
import Derived.Test.YtdnkpdfhnpmhbaaRows
import Derived.WalkKit
import Derived.ProofKit
import Derived.OpenShut
import Derived.ShutString
import Derived.ChangeOld
import Derived.Below
import Derived.SliceStrings
import Derived.Lib.SmallJoins
import Derived.Test.YtdnkpdfhnpmhbaaOpen11
import Derived.Test.YtdnkpdfhnpmhbaaAns
import Derived.Test.YtdnkpdfhnpmhbaaImpl11a
namespace Go.Proofs.Ytdnkpdfhnpmhbaa.fnExactAnswerOk
open Go.ChangeShapes Go.WideShapes Go.ChangeAt Go.RowKit
open Go.ChangeMaps (open_string shut_string)
set_option linter.unusedVariables false

set_option maxRecDepth 100000 in
set_option maxHeartbeats 8000000 in
theorem walk (w : World) (a : Tx.AnsV) (hq : a.f.t.size ≤ maxLen ∧ (Lit.int .i64 a.p).wf = true) :
    Calls Try.prog 3 #[a.val] w fun e w' => e = .returned (.bool true) ∧ Below w.heap.size w w' := by
  obtain ⟨ah, ad, ap, ⟨⟨xu, xs, xh, xa⟩, xn, xt, xp⟩⟩ := a
  have HV : Hid (Tx.AnsV.val ⟨ah, ad, ap, ⟨⟨xu, xs, xh, xa⟩, xn, xt, xp⟩⟩ = .agg #[.int .i64 ah, .int .i64 ad, .int .i64 ap, .int .i64 xu, .int .i64 xs, .int .i64 xh, .int .i64 xa, .int .i64 xn, .string xt, .bool xp]) := rfl
  have hx : xt.size ≤ 9223372036854775807 := by have e : (2 : Nat) ^ 63 - 1 = 9223372036854775807 := rfl; rw [← e]; exact hq.1
  clear hq
  have cZ : Hid (∀ w' : World, Calls Try.prog 4 #[.agg #[.int .i64 ah, .int .i64 ad, .int .i64 ap, .int .i64 xu, .int .i64 xs, .int .i64 xh, .int .i64 xa, .int .i64 xn, .string xt, .bool xp], .int .i64 1048576] w' fun e w'' => ∃ l, e = .returned (.int .i64 l) ∧ Below w'.heap.size w' w'') := fun w' => Tx.szAnswer_any ⟨ah, ad, ap, ⟨⟨xu, xs, xh, xa⟩, xn, xt, xp⟩⟩ hx 1048576 (by omega) (by omega) w'
  have cT : Hid (∀ w' : World, Calls Try.prog 6 #[.agg #[.int .i64 ah, .int .i64 ad, .int .i64 ap, .int .i64 xu, .int .i64 xs, .int .i64 xh, .int .i64 xa, .int .i64 xn, .string xt, .bool xp]] w' fun e w'' => e = .returned (.agg #[.int .i64 ah, .int .i64 ad, .int .i64 ap, .int .i64 xu, .int .i64 xs, .int .i64 xh, .int .i64 xa, .int .i64 xn, .string xt, .bool xp]) ∧ Below w'.heap.size w' w'') := fun w' => by exact Tx.toAnswer_any ⟨ah, ad, ap, ⟨⟨xu, xs, xh, xa⟩, xn, xt, xp⟩⟩ w'
  have cS : Hid (∀ w' : World, Calls Try.prog 5 #[.agg #[.int .i64 ah, .int .i64 ad, .int .i64 ap, .int .i64 xu, .int .i64 xs, .int .i64 xh, .int .i64 xa, .int .i64 xn, .string xt, .bool xp]] w' fun e w'' => e = .returned (.bool (Tx.ansOkB ⟨ah, ad, ap, ⟨⟨xu, xs, xh, xa⟩, xn, xt, xp⟩⟩)) ∧ Below w'.heap.size w' w'') := fun w' => by exact Tx.AnswerOk_spec ⟨ah, ad, ap, ⟨⟨xu, xs, xh, xa⟩, xn, xt, xp⟩⟩ w'
  have cI : Hid (∀ w' : World, Calls Try.prog 7 #[.agg #[.int .i64 ah, .int .i64 ad, .int .i64 ap, .int .i64 xu, .int .i64 xs, .int .i64 xh, .int .i64 xa, .int .i64 xn, .string xt, .bool xp]] w' fun e w'' => e = .returned (.bool (Tx.ansOkB ⟨ah, ad, ap, ⟨⟨xu, xs, xh, xa⟩, xn, xt, xp⟩⟩)) ∧ Below w'.heap.size w' w'') := fun w' => by exact Tx.AnswerOk_impl ⟨ah, ad, ap, ⟨⟨xu, xs, xh, xa⟩, xn, xt, xp⟩⟩ w'
  generalize Tx.ansOkB ⟨ah, ad, ap, ⟨⟨xu, xs, xh, xa⟩, xn, xt, xp⟩⟩ = y at cS cI
  have hyy : (y != y) = false := by simp
  clear hx
  rw [HV.out]
  clear HV
  obtain ⟨W0, hW0⟩ : ∃ W, w.alloc (.cells #[.int .i64 ah, .int .i64 ad, .int .i64 ap, .int .i64 xu, .int .i64 xs, .int .i64 xh, .int .i64 xa, .int .i64 xn, .string xt, .bool xp] 27) = W := ⟨_, rfl⟩
  have K0 : Hid (Below w.heap.size w W0) := by rw [← hW0]; exact (Below.refl _ w).alloc (Nat.le_refl _) _
  have Q0 : Hid (W0.heap[w.heap.size]? = some (.cells #[.int .i64 ah, .int .i64 ad, .int .i64 ap, .int .i64 xu, .int .i64 xs, .int .i64 xh, .int .i64 xa, .int .i64 xn, .string xt, .bool xp] 27)) := by rw [← hW0]; exact Tx.heap1 w _
  go_enter Try.func3, Try.ntmps3
  go_wp2_with (refine wpList_load_row rfl 27 _ rfl (w.heap.size) rfl 27 _ (0, 0) _ Q0.out Try.underlying27 rfl (by kernel_rfl) ?_)
  clear hW0
  refine (cZ.out _).mono ?_
  rintro e w1 ⟨l, rfl, hb⟩
  have Q1 := Lib.hid (Tx.blk_on hb Q0.out)
  have K1 := Lib.hid (K0.out.trans (hb.mono K0.out.size))
  clear hb Q0 K0
  by_cases hl : l < 0
  ·
    go_wp2
    go_ret
    exact ⟨rfl, K1.out⟩
  go_wp2_with (refine wpList_load_row rfl 27 _ rfl (w.heap.size) rfl 27 _ (0, 0) _ Q1.out Try.underlying27 rfl (by kernel_rfl) ?_)
  refine (cT.out _).mono ?_
  rintro e w2 ⟨rfl, hb⟩
  have Q2 := Lib.hid (Tx.blk_on hb Q1.out)
  have K2 := Lib.hid (K1.out.trans (hb.mono K1.out.size))
  clear hb Q1 K1
  go_wp2_with fail
  refine (cS.out _).mono ?_
  rintro e w3 ⟨rfl, hb⟩
  have Q3 := Lib.hid (Tx.blk_on hb Q2.out)
  have K3 := Lib.hid (K2.out.trans (hb.mono K2.out.size))
  clear hb Q2 K2
  go_wp2_with (refine wpList_load_row rfl 27 _ rfl (w.heap.size) rfl 27 _ (0, 0) _ Q3.out Try.underlying27 rfl (by kernel_rfl) ?_)
  refine (cT.out _).mono ?_
  rintro e w4 ⟨rfl, hb⟩
  have Q4 := Lib.hid (Tx.blk_on hb Q3.out)
  have K4 := Lib.hid (K3.out.trans (hb.mono K3.out.size))
  clear hb Q3 K3
  go_wp2_with fail
  refine (cI.out _).mono ?_
  rintro e w5 ⟨rfl, hb⟩
  have Q5 := Lib.hid (Tx.blk_on hb Q4.out)
  have K5 := Lib.hid (K4.out.trans (hb.mono K4.out.size))
  clear hb Q4 K4
  go_wp2
  go_ret
  exact ⟨rfl, K5.out⟩

theorem own : ownKnob Try.prog.godebug = none := by kernel_rfl
theorem laidOut : laidOutB Try.prog = true := by kernel_rfl

set_option maxRecDepth 100000 in
theorem lifted (os : Os) (started : os.Started) (H : Type) (enc : TypeId × Value → H) :
    ReturnsInHanded {} Try.checked os 3 .any (Rows.fnExactAnswerOkSpec.pre6 enc Try.prog Try.f3 Rows.fnExactAnswerOkRow.domain false) (Rows.fnExactAnswerOkSpec.post enc Try.prog Try.f3 false true false false) := by
  refine returnsInHanded_of_change (C := Try.checked) own started (by kernel_rfl) Try.func3
    (ChangeSpec.witness6 (enc := enc) (C := Try.checked) false ⟨#[], #[.agg #[.int .i64 0, .int .i64 0, .int .i64 0, .int .i64 0, .int .i64 0, .int .i64 0, .int .i64 0, .int .i64 0, .string ByteArray.empty, .bool false]], []⟩ 8 (by kernel_rfl) (by kernel_rfl) (by kernel_rfl) (by kernel_rfl)) ?_
  intro W base args ds gs before hval0 hW hcnd _
  have hval : ∀ (j : Nat) t v, Try.f3.params[j]? = some t → args[j]? = some v → Value.okWide Try.prog W .any base t v := hval0
  have hW' := hW
  obtain ⟨p, q, hA0, hV, rfl, hfz, hnd⟩ := hW
  have hA : DataW.TrodAll enc Try.prog W 0 (fun _ => true) true Try.f3.params.toList args.toList ds p := hA0
  rw [Try.params3] at hA hval
  obtain ⟨v0, vs0, d0, ds0, p0, q0, hargs, rfl, rfl, h0, r0⟩ := trodAll_cons hA
  obtain ⟨rfl, rfl, rfl⟩ := trodAll_nil r0
  obtain rfl : args = #[v0] := by cases args; simp_all
  obtain ⟨rfl, rfl⟩ := trodVars_none hV
  have k0 := h0
  have lt0 : ∀ x ∈ p0, x.block < W.heap.size := by obtain ⟨m, hm⟩ := k0; exact DataW.trod_lt m _ _ _ hm
  obtain ⟨b0, rfl, w0⟩ := Tx.open_ans (hval 0 27 v0 rfl rfl) h0
  clear hA0 hval0
  refine (walk W b0 w0).mono fun e W' ⟨he, bel⟩ => ?_
  subst he
  exact ⟨_, rfl, _, _, _, [], _, [], hW', trodAll_mk1 (shut_bool Try.underlying4 _), (trodAll_cons_mk (Below.trod laidOut (by kernel_rfl) (of_decide_eq_true (by kernel_rfl)) k0 bel lt0) trodAll_mk0), rfl, bel.frame _, fun h => by cases h⟩

theorem over : Rows.fnExactAnswerOkRow.holds Try.pinned (OpenSpec.ofChange Rows.fnExactAnswerOkSpec) :=
  OpenClaim.holds_of_wide 3 Try.f3 rfl rfl rfl rfl rfl rfl rfl ⟨rfl, rfl, rfl, rfl, rfl⟩ rfl rfl rfl rfl rfl (by kernel_rfl) Try.func3 (by kernel_rfl)
    (of_decide_eq_true (by kernel_rfl)) (by unfold Func.isWrapper; first | (rw [if_pos (by decide +kernel)]; kernel_rfl) | (rw [if_neg (by decide +kernel)]; exact ⟨rfl, rfl⟩))
    (fun os started H enc _ => lifted os started H enc)

end Go.Proofs.Ytdnkpdfhnpmhbaa.fnExactAnswerOk

namespace Go.Proofs.Ytdnkpdfhnpmhbaa
theorem fnExactAnswerOk_proved : Rows.FnExactAnswerOkSaid := fnExactAnswerOk.over
#print axioms fnExactAnswerOk_proved
end Go.Proofs.Ytdnkpdfhnpmhbaa

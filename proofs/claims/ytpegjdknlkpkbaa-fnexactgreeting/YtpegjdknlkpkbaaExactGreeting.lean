/-
  The law FnExactGreeting returns true at every number and flag: Greeting of the program and of the model answer alike. No condition.
-/
import Derived.Test.YtpegjdknlkpkbaaRows
import Derived.WalkKit
import Derived.ProofKit
import Derived.OpenShut
import Derived.ShutString
import Derived.ChangeOld
import Derived.Below
import Derived.SliceStrings
import Derived.Lib.SmallJoins
import Derived.Test.YtpegjdknlkpkbaaHello2
import Derived.Test.YtpegjdknlkpkbaaImpl9a
namespace Go.Proofs.Ytpegjdknlkpkbaa.fnExactGreeting
open Go.ChangeShapes Go.WideShapes Go.ChangeAt Go.RowKit
open Go.ChangeMaps (open_string shut_string)
set_option linter.unusedVariables false

set_option maxHeartbeats 8000000 in
theorem walk (w : World) (d : Int) (_ : (Lit.int .i64 d).wf = true) (ag : Bool) :
    Calls Try.prog 4 #[.int .i64 d, .bool ag] w fun e w' => e = .returned (.bool true) ∧ Below w.heap.size w w' := by
  have cS : Hid (∀ w' : World, Calls Try.prog 10 #[.int .i64 d, .bool ag] w' fun e w'' => e = .returned (.tuple #[(Tx.helNew d ag).val, .bool (Tx.isDrawB d)]) ∧ Below w'.heap.size w' w'') := fun w' => Tx.Greeting_spec d ag w'
  have cI : Hid (∀ w' : World, Calls Try.prog 11 #[.int .i64 d, .bool ag] w' fun e w'' => e = .returned (.tuple #[(Tx.helNew d ag).val, .bool (Tx.isDrawB d)]) ∧ Below w'.heap.size w' w'') := fun w' => Tx.Greeting_impl d ag w'
  generalize Tx.isDrawB d = y at cS cI
  generalize Tx.helNew d ag = q at cS cI
  have hyy : (y != y) = false := by simp
  obtain ⟨d1, ag1, ⟨⟨xu, xs, xh, xa⟩, xn, xt, xp⟩, g, ⟨⟨yu, ys, yh, ya⟩, yn, yt, yp⟩, ea⟩ := q
  have HV : Hid (Tx.HelV.val ⟨d1, ag1, ⟨⟨xu, xs, xh, xa⟩, xn, xt, xp⟩, g, ⟨⟨yu, ys, yh, ya⟩, yn, yt, yp⟩, ea⟩ = .agg #[.int .i64 d1, .bool ag1, .int .i64 xu, .int .i64 xs, .int .i64 xh, .int .i64 xa, .int .i64 xn, .string xt, .bool xp, .int .i64 g, .int .i64 yu, .int .i64 ys, .int .i64 yh, .int .i64 ya, .int .i64 yn, .string yt, .bool yp, .bool ea]) := rfl
  rw [HV.out] at cS cI
  clear HV
  have cE : Hid (∀ w' : World, Calls Try.prog 12 #[.agg #[.int .i64 d1, .bool ag1, .int .i64 xu, .int .i64 xs, .int .i64 xh, .int .i64 xa, .int .i64 xn, .string xt, .bool xp, .int .i64 g, .int .i64 yu, .int .i64 ys, .int .i64 yh, .int .i64 ya, .int .i64 yn, .string yt, .bool yp, .bool ea], .agg #[.int .i64 d1, .bool ag1, .int .i64 xu, .int .i64 xs, .int .i64 xh, .int .i64 xa, .int .i64 xn, .string xt, .bool xp, .int .i64 g, .int .i64 yu, .int .i64 ys, .int .i64 yh, .int .i64 ya, .int .i64 yn, .string yt, .bool yp, .bool ea]] w' fun e w'' => e = .returned (.bool true) ∧ Below w'.heap.size w' w'') := fun w' => Tx.eqHello_same ⟨d1, ag1, ⟨⟨xu, xs, xh, xa⟩, xn, xt, xp⟩, g, ⟨⟨yu, ys, yh, ya⟩, yn, yt, yp⟩, ea⟩ w'
  go_enter Try.func4, Try.ntmps4
  go_wp2_with fail
  refine (cS.out _).mono ?_
  rintro e w1 ⟨rfl, b1⟩
  obtain ⟨V1, hV1⟩ : ∃ V, w1.alloc (.cells #[.int .i64 0, .bool false, .int .i64 0, .int .i64 0, .int .i64 0, .int .i64 0, .int .i64 0, .string ⟨#[]⟩, .bool false, .int .i64 0, .int .i64 0, .int .i64 0, .int .i64 0, .int .i64 0, .int .i64 0, .string ⟨#[]⟩, .bool false, .bool false] 34) = V := ⟨_, rfl⟩
  have K1 : Hid (Below w.heap.size w V1) := by rw [← hV1]; exact b1.alloc b1.size _
  have A1 : Hid (V1.heap[w1.heap.size]? = some (.cells #[.int .i64 0, .bool false, .int .i64 0, .int .i64 0, .int .i64 0, .int .i64 0, .int .i64 0, .string ⟨#[]⟩, .bool false, .int .i64 0, .int .i64 0, .int .i64 0, .int .i64 0, .int .i64 0, .int .i64 0, .string ⟨#[]⟩, .bool false, .bool false] 34)) := by rw [← hV1]; exact Tx.heap1 w1 _
  have s1 : w.heap.size ≤ w1.heap.size := b1.size
  clear b1
  go_wp2_with (refine wpList_store_row rfl 34 _ _ rfl (w1.heap.size) #[.int .i64 d1, .bool ag1, .int .i64 xu, .int .i64 xs, .int .i64 xh, .int .i64 xa, .int .i64 xn, .string xt, .bool xp, .int .i64 g, .int .i64 yu, .int .i64 ys, .int .i64 yh, .int .i64 ya, .int .i64 yn, .string yt, .bool yp, .bool ea] rfl rfl 34 _ A1.out (by kernel_rfl) rfl (by simp [Value.oneCell']) ?_)
  clear hV1
  have A2 : Hid ((V1.setRow w1.heap.size #[.int .i64 d1, .bool ag1, .int .i64 xu, .int .i64 xs, .int .i64 xh, .int .i64 xa, .int .i64 xn, .string xt, .bool xp, .int .i64 g, .int .i64 yu, .int .i64 ys, .int .i64 yh, .int .i64 ya, .int .i64 yn, .string yt, .bool yp, .bool ea]).heap[w1.heap.size]? = some (.cells #[.int .i64 d1, .bool ag1, .int .i64 xu, .int .i64 xs, .int .i64 xh, .int .i64 xa, .int .i64 xn, .string xt, .bool xp, .int .i64 g, .int .i64 yu, .int .i64 ys, .int .i64 yh, .int .i64 ya, .int .i64 yn, .string yt, .bool yp, .bool ea] 34)) := setRow_heap _ _ _ _ _ _ A1.out
  have K2 : Hid (Below w.heap.size w (V1.setRow w1.heap.size #[.int .i64 d1, .bool ag1, .int .i64 xu, .int .i64 xs, .int .i64 xh, .int .i64 xa, .int .i64 xn, .string xt, .bool xp, .int .i64 g, .int .i64 yu, .int .i64 ys, .int .i64 yh, .int .i64 ya, .int .i64 yn, .string yt, .bool yp, .bool ea])) := below_setRow K1.out (by omega) _
  generalize V1.setRow w1.heap.size #[.int .i64 d1, .bool ag1, .int .i64 xu, .int .i64 xs, .int .i64 xh, .int .i64 xa, .int .i64 xn, .string xt, .bool xp, .int .i64 g, .int .i64 yu, .int .i64 ys, .int .i64 yh, .int .i64 ya, .int .i64 yn, .string yt, .bool yp, .bool ea] = V2 at A2 K2 ⊢
  clear A1 K1
  refine (cI.out _).mono ?_
  rintro e w2 ⟨rfl, b2⟩
  have A3 := Lib.hid (Tx.blk_on b2 A2.out)
  have K3 := Lib.hid (K2.out.trans (b2.mono K2.out.size))
  have s2 : w1.heap.size < w2.heap.size := Tx.blk_in A3.out
  clear b2 A2 K2
  obtain ⟨V3, hV3⟩ : ∃ V, w2.alloc (.cells #[.int .i64 0, .bool false, .int .i64 0, .int .i64 0, .int .i64 0, .int .i64 0, .int .i64 0, .string ⟨#[]⟩, .bool false, .int .i64 0, .int .i64 0, .int .i64 0, .int .i64 0, .int .i64 0, .int .i64 0, .string ⟨#[]⟩, .bool false, .bool false] 34) = V := ⟨_, rfl⟩
  have K4 : Hid (Below w.heap.size w V3) := by rw [← hV3]; exact K3.out.alloc K3.out.size _
  have A4 : Hid (V3.heap[w1.heap.size]? = some (.cells #[.int .i64 d1, .bool ag1, .int .i64 xu, .int .i64 xs, .int .i64 xh, .int .i64 xa, .int .i64 xn, .string xt, .bool xp, .int .i64 g, .int .i64 yu, .int .i64 ys, .int .i64 yh, .int .i64 ya, .int .i64 yn, .string yt, .bool yp, .bool ea] 34)) := by rw [← hV3]; exact Tx.alloc_blk A3.out
  have B4 : Hid (V3.heap[w2.heap.size]? = some (.cells #[.int .i64 0, .bool false, .int .i64 0, .int .i64 0, .int .i64 0, .int .i64 0, .int .i64 0, .string ⟨#[]⟩, .bool false, .int .i64 0, .int .i64 0, .int .i64 0, .int .i64 0, .int .i64 0, .int .i64 0, .string ⟨#[]⟩, .bool false, .bool false] 34)) := by rw [← hV3]; exact Tx.heap1 w2 _
  clear A3 K3
  have A5 : Hid ((V3.setRow w2.heap.size #[.int .i64 d1, .bool ag1, .int .i64 xu, .int .i64 xs, .int .i64 xh, .int .i64 xa, .int .i64 xn, .string xt, .bool xp, .int .i64 g, .int .i64 yu, .int .i64 ys, .int .i64 yh, .int .i64 ya, .int .i64 yn, .string yt, .bool yp, .bool ea]).heap[w1.heap.size]? = some (.cells #[.int .i64 d1, .bool ag1, .int .i64 xu, .int .i64 xs, .int .i64 xh, .int .i64 xa, .int .i64 xn, .string xt, .bool xp, .int .i64 g, .int .i64 yu, .int .i64 ys, .int .i64 yh, .int .i64 ya, .int .i64 yn, .string yt, .bool yp, .bool ea] 34)) := (setRow_other _ _ _ _ (by omega)).trans A4.out
  have B5 : Hid ((V3.setRow w2.heap.size #[.int .i64 d1, .bool ag1, .int .i64 xu, .int .i64 xs, .int .i64 xh, .int .i64 xa, .int .i64 xn, .string xt, .bool xp, .int .i64 g, .int .i64 yu, .int .i64 ys, .int .i64 yh, .int .i64 ya, .int .i64 yn, .string yt, .bool yp, .bool ea]).heap[w2.heap.size]? = some (.cells #[.int .i64 d1, .bool ag1, .int .i64 xu, .int .i64 xs, .int .i64 xh, .int .i64 xa, .int .i64 xn, .string xt, .bool xp, .int .i64 g, .int .i64 yu, .int .i64 ys, .int .i64 yh, .int .i64 ya, .int .i64 yn, .string yt, .bool yp, .bool ea] 34)) := setRow_heap _ _ _ _ _ _ B4.out
  have K5 : Hid (Below w.heap.size w (V3.setRow w2.heap.size #[.int .i64 d1, .bool ag1, .int .i64 xu, .int .i64 xs, .int .i64 xh, .int .i64 xa, .int .i64 xn, .string xt, .bool xp, .int .i64 g, .int .i64 yu, .int .i64 ys, .int .i64 yh, .int .i64 ya, .int .i64 yn, .string yt, .bool yp, .bool ea])) := below_setRow K4.out (by omega) _
  go_wp2_with (first | (refine wpList_store_row rfl 34 _ _ rfl (w2.heap.size) #[.int .i64 d1, .bool ag1, .int .i64 xu, .int .i64 xs, .int .i64 xh, .int .i64 xa, .int .i64 xn, .string xt, .bool xp, .int .i64 g, .int .i64 yu, .int .i64 ys, .int .i64 yh, .int .i64 ya, .int .i64 yn, .string yt, .bool yp, .bool ea] rfl rfl 34 _ B4.out (by kernel_rfl) rfl (by simp [Value.oneCell']) ?_) | (refine wpList_load_row rfl 34 _ rfl (w2.heap.size) rfl 34 _ (0, 0) _ B5.out Try.underlying34 rfl (by kernel_rfl) ?_) | (refine wpList_load_row rfl 34 _ rfl (w1.heap.size) rfl 34 _ (0, 0) _ A5.out Try.underlying34 rfl (by kernel_rfl) ?_))
  clear hV3 A4 B4 K4
  refine (cE.out _).mono ?_
  rintro e w3 ⟨rfl, b3⟩
  have K6 := Lib.hid (K5.out.trans (b3.mono K5.out.size))
  clear b3 K5
  go_wp2
  go_ret
  exact ⟨rfl, K6.out⟩

theorem own : ownKnob Try.prog.godebug = none := by kernel_rfl
theorem laidOut : laidOutB Try.prog = true := by kernel_rfl

set_option maxRecDepth 100000 in
theorem lifted (os : Os) (started : os.Started) (H : Type) (enc : TypeId × Value → H) :
    ReturnsInHanded {} Try.checked os 4 .any (Rows.fnExactGreetingSpec.pre6 enc Try.prog Try.f4 Rows.fnExactGreetingRow.domain false) (Rows.fnExactGreetingSpec.post enc Try.prog Try.f4 false true false false) := by
  refine returnsInHanded_of_change (C := Try.checked) own started (by kernel_rfl) Try.func4
    (ChangeSpec.witness6 (enc := enc) (C := Try.checked) false ⟨#[], #[.int .i64 0, .bool false], []⟩ 8 (by kernel_rfl) (by kernel_rfl) (by kernel_rfl) (by kernel_rfl)) ?_
  intro W base args ds gs before hval0 hW hcnd _
  have hval : ∀ (j : Nat) t v, Try.f4.params[j]? = some t → args[j]? = some v → Value.okWide Try.prog W .any base t v := hval0
  have hW' := hW
  obtain ⟨p, q, hA0, hV, rfl, hfz, hnd⟩ := hW
  have hA : DataW.TrodAll enc Try.prog W 0 (fun _ => true) true Try.f4.params.toList args.toList ds p := hA0
  rw [Try.params4] at hA hval
  obtain ⟨v0, vs0, d0, ds0, p0, q0, hargs, rfl, rfl, h0, r0⟩ := trodAll_cons hA
  obtain ⟨v1, vs1, d1, ds1, p1, q1, rfl, rfl, rfl, h1, r1⟩ := trodAll_cons r0
  obtain ⟨rfl, rfl, rfl⟩ := trodAll_nil r1
  obtain rfl : args = #[v0, v1] := by cases args; simp_all
  obtain ⟨rfl, rfl⟩ := trodVars_none hV
  have k0 := h0
  have lt0 : ∀ x ∈ p0, x.block < W.heap.size := by obtain ⟨m, hm⟩ := k0; exact DataW.trod_lt m _ _ _ hm
  have k1 := h1
  have lt1 : ∀ x ∈ p1, x.block < W.heap.size := by obtain ⟨m, hm⟩ := k1; exact DataW.trod_lt m _ _ _ hm
  obtain ⟨a0, rfl, rfl, rfl, w0⟩ := open_int Try.underlying2 (hval 0 2 v0 rfl rfl) h0
  obtain ⟨a1, rfl, rfl, rfl⟩ := open_bool Try.underlying4 (hval 1 4 v1 rfl rfl) h1
  clear hA0 hval0
  refine (walk W a0 w0 a1).mono fun e W' ⟨he, bel⟩ => ?_
  subst he
  exact ⟨_, rfl, _, _, _, [], _, [], hW', trodAll_mk1 (shut_bool Try.underlying4 _), (trodAll_cons_mk (Below.trod laidOut (by kernel_rfl) (of_decide_eq_true (by kernel_rfl)) k0 bel lt0) (trodAll_cons_mk (Below.trod laidOut (by kernel_rfl) (of_decide_eq_true (by kernel_rfl)) k1 bel lt1) trodAll_mk0)), rfl, bel.frame _, fun h => by cases h⟩

theorem over : Rows.fnExactGreetingRow.holds Try.pinned (OpenSpec.ofChange Rows.fnExactGreetingSpec) :=
  OpenClaim.holds_of_wide 4 Try.f4 rfl rfl rfl rfl rfl rfl rfl ⟨rfl, rfl, rfl, rfl, rfl⟩ rfl rfl rfl rfl rfl (by kernel_rfl) Try.func4 (by kernel_rfl)
    (of_decide_eq_true (by kernel_rfl)) (by unfold Func.isWrapper; first | (rw [if_pos (by decide +kernel)]; kernel_rfl) | (rw [if_neg (by decide +kernel)]; exact ⟨rfl, rfl⟩))
    (fun os started H enc _ => lifted os started H enc)

end Go.Proofs.Ytpegjdknlkpkbaa.fnExactGreeting

namespace Go.Proofs.Ytpegjdknlkpkbaa
theorem fnExactGreeting_proved : Rows.FnExactGreetingSaid := fnExactGreeting.over
#print axioms fnExactGreeting_proved
end Go.Proofs.Ytpegjdknlkpkbaa

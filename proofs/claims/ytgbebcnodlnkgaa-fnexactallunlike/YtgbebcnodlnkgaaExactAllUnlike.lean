/-
  The law FnExactAllUnlike returns true at every list of numbers, and the list reads behind the call as it read before: AllUnlike of the program and of the model answer alike. No condition.
-/
import Derived.Test.YtgbebcnodlnkgaaRows
import Derived.WalkKit
import Derived.ProofKit
import Derived.OpenShut
import Derived.ShutString
import Derived.ChangeOld
import Derived.Below
import Derived.SliceStrings
import Derived.Lib.SmallJoins
import Derived.Test.YtgbebcnodlnkgaaImpl2
namespace Go.Proofs.Ytgbebcnodlnkgaa.fnExactAllUnlike
open Go.ChangeShapes Go.WideShapes Go.ChangeAt Go.RowKit
open Go.ChangeMaps (open_string shut_string)
set_option linter.unusedVariables false

set_option maxHeartbeats 1000000 in
theorem walk (w : World) (a0 : Option Addr) (len0 cap0 : Nat) (z0 : List Int) (h : Tx.Nums w w.heap.size a0 len0 z0) (hl : len0 ≤ maxLen) :
    Calls Try.prog 6 #[.slice a0 len0 cap0] w fun e w' => e = .returned (.bool true) ∧ Below w.heap.size w w' := by
  unfold maxLen at hl
  have HH := Lib.hid h
  clear h
  by_cases hbig : 1048576 < len0
  · go_enter Try.func6, Try.ntmps6
    go_wp2
    go_ret
    exact ⟨rfl, Below.refl _ _⟩
  · have hn : len0 ≤ 1048576 := by omega
    go_enter Try.func6, Try.ntmps6
    go_wp2_with fail
    refine (Tx.toInt64S_any _ _ _ z0 _ HH.out hn).mono ?_
    rintro e w1 ⟨rfl, c1⟩
    have K1 := Tx.Kp.start.go c1.bel
    have X1 := Lib.hid (Tx.Nums.of_row c1.row HH.out.1)
    clear c1
    go_wp2_with fail
    refine (Tx.AllUnlike_spec _ _ _ z0 _ X1.out hn).mono ?_
    rintro e w2 ⟨rfl, q, rfl⟩
    have K2 := K1.go (Tx.drewN_below (Below.refl _ w1) q)
    generalize w1.drewN q = w2 at K2 ⊢
    go_wp2_with fail
    refine (Tx.toInt64S_any _ _ _ z0 _ (K2.nums HH.out) hn).mono ?_
    rintro e w3 ⟨rfl, c3⟩
    have K3 := K2.go c3.bel
    have X3 := Lib.hid (Tx.Nums.of_row c3.row HH.out.1)
    clear c3
    go_wp2_with fail
    refine (Tx.AllUnlike_impl _ _ _ z0 _ X3.out hn).mono ?_
    rintro e w4 ⟨rfl, b4⟩
    have K4 := K3.go b4
    have L4 := Tx.Kp.start.go b4
    clear b4
    go_wp2_with fail
    refine (Tx.toInt64S_any _ _ _ z0 _ (K4.nums HH.out) hn).mono ?_
    rintro e w5 ⟨rfl, c5⟩
    have K5 := K4.go c5.bel
    have L5 := L4.go c5.bel
    have X5 := Lib.hid (Tx.Nums.of_row c5.row HH.out.1)
    clear c5
    go_wp2_with fail
    refine (Tx.eqInt64S_any _ _ _ _ _ _ z0 z0 _ (L5.nums X3.out) X5.out hn hn).mono ?_
    rintro e w6 ⟨rfl, q6, rfl⟩
    go_wp2
    go_ret
    exact ⟨rfl, Tx.drewN_below K5.bel q6⟩

theorem own : ownKnob Try.prog.godebug = none := by kernel_rfl
theorem laidOut : laidOutB Try.prog = true := by kernel_rfl

set_option maxRecDepth 100000 in
theorem lifted (os : Os) (started : os.Started) (H : Type) (enc : TypeId × Value → H) :
    ReturnsInHanded {} Try.checked os 6 .any (Rows.fnExactAllUnlikeSpec.pre6 enc Try.prog Try.f6 Rows.fnExactAllUnlikeRow.domain false) (Rows.fnExactAllUnlikeSpec.post enc Try.prog Try.f6 false true false false) := by
  refine returnsInHanded_of_change (C := Try.checked) own started (by kernel_rfl) Try.func6
    (ChangeSpec.witness6 (enc := enc) (C := Try.checked) false ⟨#[], #[.slice none 0 0], []⟩ 8 (by kernel_rfl) (by kernel_rfl) (by kernel_rfl) (by kernel_rfl)) ?_
  intro W base args ds gs before hval0 hW hcnd _
  have hval : ∀ (j : Nat) t v, Try.f6.params[j]? = some t → args[j]? = some v → Value.okWide Try.prog W .any base t v := hval0
  have hW' := hW
  obtain ⟨p, q, hA0, hV, rfl, hfz, hnd⟩ := hW
  have hA : DataW.TrodAll enc Try.prog W 0 (fun _ => true) true Try.f6.params.toList args.toList ds p := hA0
  rw [Try.params6] at hA hval
  obtain ⟨v0, vs0, d0, ds0, p0, q0, hargs, rfl, rfl, h0, r0⟩ := trodAll_cons hA
  obtain ⟨rfl, rfl, rfl⟩ := trodAll_nil r0
  obtain rfl : args = #[v0] := by cases args; simp_all
  obtain ⟨rfl, rfl⟩ := trodVars_none hV
  have k0 := h0
  have lt0 : ∀ x ∈ p0, x.block < W.heap.size := by obtain ⟨m, hm⟩ := k0; exact DataW.trod_lt m _ _ _ hm
  obtain ⟨a0, len0, cap0, rfl⟩ := okWide_slice Try.underlying27 (hval 0 27 v0 rfl rfl)
  obtain ⟨z0, w0⟩ : ∃ zs, Tx.Nums W W.heap.size a0 len0 zs ∧ len0 ≤ maxLen := by
    obtain ⟨fuel, hf⟩ := h0
    rcases open_ints Try.underlying27 Try.underlying2 (by kernel_rfl) hf with ⟨hcs, _⟩ | ⟨x, l, c, zs, hcs, _, hl, hm, hz, _, hcell, hwz⟩
    · simp [Value.cells] at hcs
      obtain ⟨rfl, rfl, rfl⟩ := hcs
      exact ⟨[], Tx.nums_nil _ _ _, by unfold maxLen; omega⟩
    · simp [Value.cells] at hcs
      obtain ⟨rfl, rfl, rfl⟩ := hcs
      simp only [if_true] at hz
      exact ⟨zs.take _, Tx.nums_of_open (by omega) hcell, by omega⟩
  clear hA0 hval0
  refine (walk W a0 len0 cap0 z0 w0.1 w0.2).mono fun e W' ⟨he, bel⟩ => ?_
  subst he
  exact ⟨_, rfl, _, _, _, [], _, [], hW', trodAll_mk1 (shut_bool Try.underlying4 _), (trodAll_cons_mk (Below.trod laidOut (by kernel_rfl) (of_decide_eq_true (by kernel_rfl)) k0 bel lt0) trodAll_mk0), rfl, bel.frame _, fun h => by cases h⟩

theorem over : Rows.fnExactAllUnlikeRow.holds Try.pinned (OpenSpec.ofChange Rows.fnExactAllUnlikeSpec) :=
  OpenClaim.holds_of_wide 6 Try.f6 rfl rfl rfl rfl rfl rfl rfl ⟨rfl, rfl, rfl, rfl, rfl⟩ rfl rfl rfl rfl rfl (by kernel_rfl) Try.func6 (by kernel_rfl)
    (of_decide_eq_true (by kernel_rfl)) (by unfold Func.isWrapper; first | (rw [if_pos (by decide +kernel)]; kernel_rfl) | (rw [if_neg (by decide +kernel)]; exact ⟨rfl, rfl⟩))
    (fun os started H enc _ => lifted os started H enc)

end Go.Proofs.Ytgbebcnodlnkgaa.fnExactAllUnlike

namespace Go.Proofs.Ytgbebcnodlnkgaa
theorem fnExactAllUnlike_proved : Rows.FnExactAllUnlikeSaid := fnExactAllUnlike.over
#print axioms fnExactAllUnlike_proved
end Go.Proofs.Ytgbebcnodlnkgaa

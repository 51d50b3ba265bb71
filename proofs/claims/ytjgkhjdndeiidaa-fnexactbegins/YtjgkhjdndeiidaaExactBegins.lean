/-
  The law FnExactBegins returns true at every two lists of strings, and both read behind the call as they read before: Begins of the program and of the model answer alike. No condition.
-/
import Derived.Test.YtjgkhjdndeiidaaRows
import Derived.WalkKit
import Derived.ProofKit
import Derived.OpenShut
import Derived.ShutString
import Derived.ChangeOld
import Derived.Below
import Derived.SliceStrings
import Derived.Test.YtjgkhjdndeiidaaBegins
namespace Go.Proofs.Ytjgkhjdndeiidaa.fnExactBegins
open Go.ChangeShapes Go.WideShapes Go.ChangeAt Go.RowKit
open Go.ChangeMaps (open_string shut_string)
set_option linter.unusedVariables false

set_option maxHeartbeats 2000000 in
theorem walk (w : World) (a0 : Option Addr) (len0 cap0 : Nat) (z0 : List ByteArray) (h0 : Tx.Strs w w.heap.size a0 len0 z0) (hl0 : len0 ≤ maxLen) (hz0 : ∀ s ∈ z0, s.size ≤ maxLen)
    (a1 : Option Addr) (len1 cap1 : Nat) (z1 : List ByteArray) (h1 : Tx.Strs w w.heap.size a1 len1 z1) (hl1 : len1 ≤ maxLen) (hz1 : ∀ s ∈ z1, s.size ≤ maxLen) :
    Calls Try.prog 6 #[.slice a0 len0 cap0, .slice a1 len1 cap1] w fun e w' => e = .returned (.bool true) ∧ Below w.heap.size w w' := by
  have H0 := Lib.hid h0
  have H1 := Lib.hid h1
  have Z0 := Lib.hid hz0
  have Z1 := Lib.hid hz1
  clear h0 h1 hz0 hz1
  by_cases hneg : Tx.szL z0 1048576 < 0
  · go_enter Try.func6, Try.ntmps6
    go_wp2_with fail
    refine (Tx.szStringS_any _ _ _ z0 _ _ H0.out hl0 Z0.out (by omega) (by omega)).mono ?_
    rintro e w' ⟨rfl, rfl⟩
    go_wp2
    go_ret
    exact ⟨rfl, Below.refl _ _⟩
  · have hle := Tx.szL_le z0 1048576 (by omega)
    by_cases hneg1 : Tx.szL z1 (Tx.szL z0 1048576) < 0
    · go_enter Try.func6, Try.ntmps6
      go_wp2_with fail
      refine (Tx.szStringS_any _ _ _ z0 _ _ H0.out hl0 Z0.out (by omega) (by omega)).mono ?_
      rintro e w' ⟨rfl, rfl⟩
      go_wp2_with fail
      refine (Tx.szStringS_any _ _ _ z1 _ _ H1.out hl1 Z1.out (by omega) (by omega)).mono ?_
      rintro e w' ⟨rfl, rfl⟩
      go_wp2
      go_ret
      exact ⟨rfl, Below.refl _ _⟩
    · have hb0 := Tx.szL_ge hneg
      have hb1 := Tx.szL_ge' hneg1
      rw [H0.out.1] at hb0
      rw [H1.out.1] at hb1
      have hn0 : len0 ≤ 1048576 := by omega
      have hn1 : len1 ≤ 1048576 := by omega
      clear hb0 hb1
      go_enter Try.func6, Try.ntmps6
      go_wp2_with fail
      refine (Tx.szStringS_any _ _ _ z0 _ _ H0.out hl0 Z0.out (by omega) (by omega)).mono ?_
      rintro e w' ⟨rfl, rfl⟩
      go_wp2_with fail
      refine (Tx.szStringS_any _ _ _ z1 _ _ H1.out hl1 Z1.out (by omega) (by omega)).mono ?_
      rintro e w' ⟨rfl, rfl⟩
      go_wp2_with fail
      refine (Tx.toStringS_any _ _ _ z0 _ H0.out hn0).mono ?_
      rintro e w1 ⟨rfl, c1⟩
      have K1 := Tx.Kp.start.go c1.bel
      have X1 := Tx.Strs.of_row c1.row H0.out.1
      go_wp2_with fail
      refine (Tx.toStringS_any _ _ _ z1 _ (K1.strs H1.out) hn1).mono ?_
      rintro e w2 ⟨rfl, c2⟩
      have K2 := K1.go c2.bel
      have X2 := Tx.Strs.of_row c2.row H1.out.1
      go_wp2_with fail
      refine (Tx.Begins_spec _ _ _ _ _ _ z0 z1 _ ((Tx.Kp.start.go c2.bel).strs X1) X2 hn0 hn1 (Nat.le_refl _)).mono ?_
      rintro e w3 ⟨rfl, q, rfl⟩
      have K3 := K2.go (Tx.drewN_below (Below.refl _ w2) q)
      go_wp2_with fail
      refine (Tx.toStringS_any _ _ _ z0 _ (K3.strs H0.out) hn0).mono ?_
      rintro e w4 ⟨rfl, c4⟩
      have K4 := K3.go c4.bel
      have X4 := Tx.Strs.of_row c4.row H0.out.1
      go_wp2_with fail
      refine (Tx.toStringS_any _ _ _ z1 _ (K4.strs H1.out) hn1).mono ?_
      rintro e w5 ⟨rfl, c5⟩
      have K5 := K4.go c5.bel
      have K45 := Tx.Kp.start.go c5.bel
      have X5 := Tx.Strs.of_row c5.row H1.out.1
      go_wp2_with fail
      refine (Tx.Begins_any _ _ _ _ _ _ z0 z1 _ (K45.strs X4) X5 hn0 hn1).mono ?_
      rintro e w6 ⟨rfl, b6⟩
      have K6 := K5.go b6
      have K46 := K45.go b6
      have K56 := Tx.Kp.start.go b6
      go_wp2_with fail
      refine (Tx.toStringS_any _ _ _ z0 _ (K6.strs H0.out) hn0).mono ?_
      rintro e w7 ⟨rfl, c7⟩
      have K7 := K6.go c7.bel
      have K47 := K46.go c7.bel
      have K57 := K56.go c7.bel
      have X7 := Tx.Strs.of_row c7.row H0.out.1
      go_wp2_with fail
      refine (Tx.eqStringS_any _ _ _ _ _ _ z0 z0 _ (K47.strs X4) X7 hn0 hn0).mono ?_
      rintro e w8 ⟨rfl, q8, rfl⟩
      have K8 := K7.go (Tx.drewN_below (Below.refl _ w7) q8)
      have K58 := K57.go (Tx.drewN_below (Below.refl _ w7) q8)
      go_wp2_with fail
      refine (Tx.toStringS_any _ _ _ z1 _ (K8.strs H1.out) hn1).mono ?_
      rintro e w9 ⟨rfl, c9⟩
      have K9 := K8.go c9.bel
      have K59 := K58.go c9.bel
      have X9 := Tx.Strs.of_row c9.row H1.out.1
      go_wp2_with fail
      refine (Tx.eqStringS_any _ _ _ _ _ _ z1 z1 _ (K59.strs X5) X9 hn1 hn1).mono ?_
      rintro e w10 ⟨rfl, q10, rfl⟩
      go_wp2
      go_ret
      exact ⟨rfl, Tx.drewN_below K9.bel q10⟩

theorem own : ownKnob Try.prog.godebug = none := by kernel_rfl
theorem laidOut : laidOutB Try.prog = true := by kernel_rfl

set_option maxRecDepth 100000 in
theorem lifted (os : Os) (started : os.Started) (H : Type) (enc : TypeId × Value → H) :
    ReturnsInHanded {} Try.checked os 6 .any (Rows.fnExactBeginsSpec.pre6 enc Try.prog Try.f6 Rows.fnExactBeginsRow.domain false) (Rows.fnExactBeginsSpec.post enc Try.prog Try.f6 false true false false) := by
  refine returnsInHanded_of_change (C := Try.checked) own started (by kernel_rfl) Try.func6
    (ChangeSpec.witness6 (enc := enc) (C := Try.checked) false ⟨#[], #[.slice none 0 0, .slice none 0 0], []⟩ 8 (by kernel_rfl) (by kernel_rfl) (by kernel_rfl) (by kernel_rfl)) ?_
  intro W base args ds gs before hval0 hW hcnd _
  have hval : ∀ (j : Nat) t v, Try.f6.params[j]? = some t → args[j]? = some v → Value.okWide Try.prog W .any base t v := hval0
  have hW' := hW
  obtain ⟨p, q, hA0, hV, rfl, hfz, hnd⟩ := hW
  have hA : DataW.TrodAll enc Try.prog W 0 (fun _ => true) true Try.f6.params.toList args.toList ds p := hA0
  rw [Try.params6] at hA hval
  obtain ⟨v0, vs0, d0, ds0, p0, q0, hargs, rfl, rfl, h0, r0⟩ := trodAll_cons hA
  obtain ⟨v1, vs1, d1, ds1, p1, q1, rfl, rfl, rfl, h1, r1⟩ := trodAll_cons r0
  obtain ⟨rfl, rfl, rfl⟩ := trodAll_nil r1
  obtain rfl : args = #[v0, v1] := by cases args; simp_all
  obtain ⟨rfl, rfl⟩ := trodVars_none hV
  have k0 := h0
  have lt0 : ∀ x ∈ p0, x.block < W.heap.size := by obtain ⟨m, hm⟩ := k0; exact DataW.trod_lt m _ _ _ hm
  have k1 := h1
  have lt1 : ∀ x ∈ p1, x.block < W.heap.size := by obtain ⟨m, hm⟩ := k1; exact DataW.trod_lt m _ _ _ hm
  obtain ⟨a0, len0, cap0, rfl⟩ := okWide_slice Try.underlying25 (hval 0 25 v0 rfl rfl)
  obtain ⟨z0, w0⟩ : ∃ ss, Tx.Strs W W.heap.size a0 len0 ss ∧ len0 ≤ maxLen ∧ ∀ s ∈ ss, s.size ≤ maxLen := by
    obtain ⟨fuel, hf⟩ := h0
    rcases open_strings Try.underlying25 Try.underlying9 (by kernel_rfl) hf with ⟨hcs, _⟩ | ⟨x, l, c, ss, hcs, _, hl, hm, hz, _, hcell, hws⟩
    · simp [Value.cells] at hcs
      obtain ⟨rfl, rfl, rfl⟩ := hcs
      exact ⟨[], Tx.strs_nil _ _ _, by unfold maxLen; omega, by simp⟩
    · simp [Value.cells] at hcs
      obtain ⟨rfl, rfl, rfl⟩ := hcs
      simp only [if_true] at hz
      exact ⟨ss.take _, Tx.strs_of_open (by omega) hcell, by omega, fun s hs => hws s (List.mem_of_mem_take hs)⟩
  obtain ⟨a1, len1, cap1, rfl⟩ := okWide_slice Try.underlying25 (hval 1 25 v1 rfl rfl)
  obtain ⟨z1, w1⟩ : ∃ ss, Tx.Strs W W.heap.size a1 len1 ss ∧ len1 ≤ maxLen ∧ ∀ s ∈ ss, s.size ≤ maxLen := by
    obtain ⟨fuel, hf⟩ := h1
    rcases open_strings Try.underlying25 Try.underlying9 (by kernel_rfl) hf with ⟨hcs, _⟩ | ⟨x, l, c, ss, hcs, _, hl, hm, hz, _, hcell, hws⟩
    · simp [Value.cells] at hcs
      obtain ⟨rfl, rfl, rfl⟩ := hcs
      exact ⟨[], Tx.strs_nil _ _ _, by unfold maxLen; omega, by simp⟩
    · simp [Value.cells] at hcs
      obtain ⟨rfl, rfl, rfl⟩ := hcs
      simp only [if_true] at hz
      exact ⟨ss.take _, Tx.strs_of_open (by omega) hcell, by omega, fun s hs => hws s (List.mem_of_mem_take hs)⟩
  clear hA0 hval0
  refine (walk W a0 len0 cap0 z0 w0.1 w0.2.1 w0.2.2 a1 len1 cap1 z1 w1.1 w1.2.1 w1.2.2).mono fun e W' ⟨he, bel⟩ => ?_
  subst he
  exact ⟨_, rfl, _, _, _, [], _, [], hW', trodAll_mk1 (shut_bool Try.underlying4 _), (trodAll_cons_mk (Below.trod laidOut (by kernel_rfl) (of_decide_eq_true (by kernel_rfl)) k0 bel lt0) (trodAll_cons_mk (Below.trod laidOut (by kernel_rfl) (of_decide_eq_true (by kernel_rfl)) k1 bel lt1) trodAll_mk0)), rfl, bel.frame _, fun h => by cases h⟩

theorem over : Rows.fnExactBeginsRow.holds Try.pinned (OpenSpec.ofChange Rows.fnExactBeginsSpec) :=
  OpenClaim.holds_of_wide 6 Try.f6 rfl rfl rfl rfl rfl rfl rfl ⟨rfl, rfl, rfl, rfl, rfl⟩ rfl rfl rfl rfl rfl (by kernel_rfl) Try.func6 (by kernel_rfl)
    (of_decide_eq_true (by kernel_rfl)) (by unfold Func.isWrapper; first | (rw [if_pos (by decide +kernel)]; kernel_rfl) | (rw [if_neg (by decide +kernel)]; exact ⟨rfl, rfl⟩))
    (fun os started H enc _ => lifted os started H enc)

end Go.Proofs.Ytjgkhjdndeiidaa.fnExactBegins

namespace Go.Proofs.Ytjgkhjdndeiidaa
theorem fnExactBegins_proved : Rows.FnExactBeginsSaid := fnExactBegins.over
#print axioms fnExactBegins_proved
end Go.Proofs.Ytjgkhjdndeiidaa

/-
  The law FnExactUpto returns true at every list of strings and every number, and both read behind the call as they read before: Upto of the program and of the model answer alike. No condition.
-/
import Derived.Test.YtjgkhjdndeiidaaRows
import Derived.WalkKit
import Derived.ProofKit
import Derived.OpenShut
import Derived.ShutString
import Derived.ChangeOld
import Derived.Below
import Derived.SliceStrings
import Derived.Test.YtjgkhjdndeiidaaUpto
namespace Go.Proofs.Ytjgkhjdndeiidaa.fnExactUpto
open Go.ChangeShapes Go.WideShapes Go.ChangeAt Go.RowKit
open Go.ChangeMaps (open_string shut_string)
set_option linter.unusedVariables false

set_option maxHeartbeats 1000000 in
theorem walk (w : World) (a0 : Option Addr) (len0 cap0 : Nat) (z0 : List ByteArray) (h : Tx.Strs w w.heap.size a0 len0 z0) (hl : len0 ≤ maxLen) (hz : ∀ s ∈ z0, s.size ≤ maxLen) (m : Int) (wm : (Lit.int .i64 m).wf = true) :
    Calls Try.prog 8 #[.slice a0 len0 cap0, .int .i64 m] w fun e w' => e = .returned (.bool true) ∧ Below w.heap.size w w' := by
  obtain ⟨hm0, hm1⟩ := bounds_i64 wm
  clear wm
  by_cases hneg : Tx.szL z0 1048576 < 0
  · go_enter Try.func8, Try.ntmps8
    go_wp2_with fail
    refine (Tx.szStringS_any _ _ _ z0 _ _ h hl hz (by omega) (by omega)).mono ?_
    rintro e w' ⟨rfl, rfl⟩
    go_wp2
    go_ret
    exact ⟨rfl, Below.refl _ _⟩
  · have hb := Tx.szL_ge hneg
    rw [h.1] at hb
    have hn : len0 ≤ 1048576 := by omega
    have hs : Tx.sumB z0 ≤ 1048576 := by omega
    have HH := Lib.hid h
    have HZ := Lib.hid hz
    clear h hz
    go_enter Try.func8, Try.ntmps8
    go_wp2_with fail
    refine (Tx.szStringS_any _ _ _ z0 _ _ HH.out hl HZ.out (by omega) (by omega)).mono ?_
    rintro e w' ⟨rfl, rfl⟩
    go_wp2_with fail
    refine (Tx.toStringS_any _ _ _ z0 _ HH.out hn).mono ?_
    rintro e w1 ⟨rfl, hc1⟩
    have S1 := Tx.Strs.of_row hc1.row HH.out.1
    go_wp2_with fail
    refine (Tx.Upto_spec _ _ _ z0 m hn (Nat.le_refl _) (by unfold maxLen; omega) hs _ S1).mono ?_
    rintro e w' ⟨rfl, rfl⟩
    have A1 := (HH.out.below hc1.bel).mono hc1.bel.size
    go_wp2_with fail
    refine (Tx.toStringS_any _ _ _ z0 _ A1 hn).mono ?_
    rintro e w2 ⟨rfl, hc2⟩
    have S2 := Tx.Strs.of_row hc2.row HH.out.1
    go_wp2_with fail
    refine (Tx.Upto_any _ _ _ z0 m hm0 hm1 hn _ S2).mono ?_
    rintro e w3 ⟨rfl, hB3⟩
    have A3 := (((A1.below hc2.bel).mono hc2.bel.size).below hB3).mono hB3.size
    have S3 := (S2.below hB3).mono hB3.size
    go_wp2_with fail
    refine (Tx.toStringS_any _ _ _ z0 _ A3 hn).mono ?_
    rintro e w4 ⟨rfl, hc4⟩
    have S4 := Tx.Strs.of_row hc4.row HH.out.1
    have S3' := (S3.below hc4.bel).mono hc4.bel.size
    go_wp2_with fail
    refine (Tx.eqStringS_any _ _ _ _ _ _ z0 z0 _ S3' S4 hn hn).mono ?_
    rintro e w5 ⟨rfl, q, rfl⟩
    go_wp2
    go_ret
    exact ⟨rfl, Tx.drewN_below (((hc1.bel.trans (hc2.bel.mono hc1.bel.size)).trans (hB3.mono (Nat.le_trans hc1.bel.size hc2.bel.size))).trans (hc4.bel.mono (Nat.le_trans hc1.bel.size (Nat.le_trans hc2.bel.size hB3.size)))) q⟩

theorem own : ownKnob Try.prog.godebug = none := by kernel_rfl
theorem laidOut : laidOutB Try.prog = true := by kernel_rfl

set_option maxRecDepth 100000 in
theorem lifted (os : Os) (started : os.Started) (H : Type) (enc : TypeId × Value → H) :
    ReturnsInHanded {} Try.checked os 8 .any (Rows.fnExactUptoSpec.pre6 enc Try.prog Try.f8 Rows.fnExactUptoRow.domain false) (Rows.fnExactUptoSpec.post enc Try.prog Try.f8 false true false false) := by
  refine returnsInHanded_of_change (C := Try.checked) own started (by kernel_rfl) Try.func8
    (ChangeSpec.witness6 (enc := enc) (C := Try.checked) false ⟨#[], #[.slice none 0 0, .int .i64 0], []⟩ 8 (by kernel_rfl) (by kernel_rfl) (by kernel_rfl) (by kernel_rfl)) ?_
  intro W base args ds gs before hval0 hW hcnd _
  have hval : ∀ (j : Nat) t v, Try.f8.params[j]? = some t → args[j]? = some v → Value.okWide Try.prog W .any base t v := hval0
  have hW' := hW
  obtain ⟨p, q, hA0, hV, rfl, hfz, hnd⟩ := hW
  have hA : DataW.TrodAll enc Try.prog W 0 (fun _ => true) true Try.f8.params.toList args.toList ds p := hA0
  rw [Try.params8] at hA hval
  obtain ⟨v0, vs0, d0, ds0, p0, q0, hargs, rfl, rfl, h0, r0⟩ := trodAll_cons hA
  obtain ⟨v1, vs1, d1, ds1, p1, q1, rfl, rfl, rfl, h1, r1⟩ := trodAll_cons r0
  obtain ⟨rfl, rfl, rfl⟩ := trodAll_nil r1
  obtain rfl : args = #[v0, v1] := by cases args; simp_all
  obtain ⟨rfl, rfl⟩ := trodVars_none hV
  have k0 := h0
  have lt0 : ∀ x ∈ p0, x.block < W.heap.size := by obtain ⟨m, hm⟩ := k0; exact DataW.trod_lt m _ _ _ hm
  have k1 := h1
  have lt1 : ∀ x ∈ p1, x.block < W.heap.size := by obtain ⟨m, hm⟩ := k1; exact DataW.trod_lt m _ _ _ hm
  obtain ⟨a0, len0, cap0, rfl⟩ := okWide_slice Try.underlying25 (hval 0 25 v0 rfl rfl)
  obtain ⟨z0, w0⟩ : ∃ ss, Tx.Strs W W.heap.size a0 len0 ss ∧ len0 ≤ maxLen ∧ ∀ s ∈ ss, s.size ≤ maxLen := by
    obtain ⟨fuel, hf⟩ := h0
    rcases open_strings Try.underlying25 Try.underlying9 (by kernel_rfl) hf with ⟨hcs, _⟩ | ⟨x, l, c, ss, hcs, _, hl, hm, hz, _, hcell, hws⟩
    · simp [Value.cells] at hcs
      obtain ⟨rfl, rfl, rfl⟩ := hcs
      exact ⟨[], Tx.strs_nil _ _ _, by unfold maxLen; omega, by simp⟩
    · simp [Value.cells] at hcs
      obtain ⟨rfl, rfl, rfl⟩ := hcs
      simp only [if_true] at hz
      exact ⟨ss.take _, Tx.strs_of_open (by omega) hcell, by omega, fun s hs => hws s (List.mem_of_mem_take hs)⟩
  obtain ⟨a1, rfl, rfl, rfl, w1⟩ := open_int Try.underlying2 (hval 1 2 v1 rfl rfl) h1
  clear hA0 hval0
  refine (walk W a0 len0 cap0 z0 w0.1 w0.2.1 w0.2.2 a1 w1).mono fun e W' ⟨he, bel⟩ => ?_
  subst he
  exact ⟨_, rfl, _, _, _, [], _, [], hW', trodAll_mk1 (shut_bool Try.underlying4 _), (trodAll_cons_mk (Below.trod laidOut (by kernel_rfl) (of_decide_eq_true (by kernel_rfl)) k0 bel lt0) (trodAll_cons_mk (Below.trod laidOut (by kernel_rfl) (of_decide_eq_true (by kernel_rfl)) k1 bel lt1) trodAll_mk0)), rfl, bel.frame _, fun h => by cases h⟩

theorem over : Rows.fnExactUptoRow.holds Try.pinned (OpenSpec.ofChange Rows.fnExactUptoSpec) :=
  OpenClaim.holds_of_wide 8 Try.f8 rfl rfl rfl rfl rfl rfl rfl ⟨rfl, rfl, rfl, rfl, rfl⟩ rfl rfl rfl rfl rfl (by kernel_rfl) Try.func8 (by kernel_rfl)
    (of_decide_eq_true (by kernel_rfl)) (by unfold Func.isWrapper; first | (rw [if_pos (by decide +kernel)]; kernel_rfl) | (rw [if_neg (by decide +kernel)]; exact ⟨rfl, rfl⟩))
    (fun os started H enc _ => lifted os started H enc)

end Go.Proofs.Ytjgkhjdndeiidaa.fnExactUpto

namespace Go.Proofs.Ytjgkhjdndeiidaa
theorem fnExactUpto_proved : Rows.FnExactUptoSaid := fnExactUpto.over
#print axioms fnExactUpto_proved
end Go.Proofs.Ytjgkhjdndeiidaa

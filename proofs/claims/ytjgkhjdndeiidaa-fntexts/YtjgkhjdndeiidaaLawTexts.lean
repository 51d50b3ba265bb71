/-
  The law FnTexts returns true at every code, and the code reads behind the call as it read before: as many go in as go in, and one more does not. No condition.
-/
import Derived.Test.YtjgkhjdndeiidaaRows
import Derived.WalkKit
import Derived.ProofKit
import Derived.OpenShut
import Derived.ShutString
import Derived.ChangeOld
import Derived.Below
import Derived.SliceStrings
import Derived.Test.YtjgkhjdndeiidaaText
import Derived.Test.YtjgkhjdndeiidaaUpto
import Derived.Test.YtjgkhjdndeiidaaBegins
import Derived.Test.YtjgkhjdndeiidaaDraw1
namespace Go.Proofs.Ytjgkhjdndeiidaa.fnTexts
open Go.ChangeShapes Go.WideShapes Go.ChangeAt Go.RowKit
open Go.ChangeMaps (open_string shut_string)
set_option linter.unusedVariables false

theorem big_any (w : World) (A : Option Addr) (n cap : Nat) : Calls Try.prog 9 #[.slice A n cap] w fun e w' => e = .returned (.bool (decide (4096 < n))) ∧ w = w' := by
  go_enter Try.func9, Try.ntmps9
  go_wp2
  go_ret
  exact ⟨by simp; omega, rfl⟩

set_option maxRecDepth 100000 in
set_option maxHeartbeats 4000000 in
theorem walk (w : World) (a0 : Option Addr) (len0 cap0 : Nat) (hb : Tx.BytesAt w w.heap.size a0 len0) (hl : len0 ≤ maxLen) :
    Calls Try.prog 3 #[.slice a0 len0 cap0] w fun e w' => e = .returned (.bool true) ∧ Below w.heap.size w w' := by
  unfold maxLen at hl
  have HB := Lib.hid hb
  clear hb
  by_cases hbig : 4096 < len0
  · have hd : decide (4096 < len0) = true := by simpa using hbig
    go_enter Try.func3, Try.ntmps3
    go_wp2_with fail
    refine (big_any _ _ _ _).mono ?_
    rintro e w' ⟨rfl, rfl⟩
    go_wp2
    go_ret
    exact ⟨rfl, Below.refl _ _⟩
  · have hd : decide (4096 < len0) = false := by simpa using hbig
    have hn : len0 ≤ 4096 := by omega
    clear hbig
    go_enter Try.func3, Try.ntmps3
    go_wp2_with fail
    refine (big_any _ _ _ _).mono ?_
    rintro e w' ⟨rfl, rfl⟩
    go_wp2_with fail
    refine (Tx.DrawTextOk_any _ _ _ _ hn HB.out).mono ?_
    rintro e w1 ⟨s, hs13, rfl, b1⟩
    have K1 := Tx.Kp.start.go b1
    have HB1 := Lib.hid (HB.out.kept b1)
    clear b1
    have hs : s.size ≤ 1048576 := by omega
    go_wp2_with fail
    refine (Tx.DrawBegins_any _ _ _ _ hn HB1.out).mono ?_
    rintro e w2 ⟨aa, bb, ga, ca, gb, cb, hla, hlb, rfl, ma, mb, b2⟩
    have K2 := K1.go b2
    have HB2 := Lib.hid (HB1.out.kept b2)
    have SA := Lib.hid ma.strs
    have SB := Lib.hid mb.strs
    have hcb := mb.cap.1
    have hcbm := mb.cap.2
    unfold maxLen at hcbm
    clear b2 ma mb
    go_wp2_with fail
    refine (Tx.DrawUpto_any _ _ _ _ hn HB2.out).mono ?_
    rintro e w3 ⟨ll, gl, cl, most, hll, hm0, hm1, rfl, ml, b3⟩
    have K3 := K2.go b3
    have A3 := Tx.Kp.start.go b3
    have SL := Lib.hid ml.strs
    have hcl := ml.cap.1
    have hclm := Lib.hid ml.cap.2
    have hsum : Tx.sumB ll ≤ 1048576 := by have := Tx.sumB_small ll ml.small; omega
    have hlm : (ll.length : Int) ≤ 5 := by omega
    clear b3 ml
    go_wp2_with fail
    refine (Tx.Upto_any _ _ _ ll most (by omega) (by omega) (by omega) _ SL.out).mono ?_
    rintro e w4 ⟨rfl, b4⟩
    have hU1 := Tx.uptoL_le ll most
    have hU2 := Tx.uptoL_sum ll most
    have hU3 := Tx.uptoL_more ll most
    generalize hKe : Tx.uptoL ll most = K at hU1 hU2 hU3 ⊢
    have HK := Lib.hid hKe
    have HU2 := Lib.hid hU2
    have HU3 := Lib.hid hU3
    have K4 := K3.go b4
    have A4 := A3.go b4
    have L4 := Tx.Kp.start.go b4
    clear b4 hKe hU2 hU3
    go_wp2_with fail
    refine (Tx.BytesOf_any _ _ _ ll (by omega) hsum _ (L4.strs SL.out)).mono ?_
    rintro e w5 ⟨rfl, b5⟩
    have K5 := K4.go b5
    have A5 := A4.go b5
    have L5 := L4.go b5
    clear b5
    go_wp2_with fail
    refine (Tx.TextOk_any s hs _).mono ?_
    rintro e w6 ⟨rfl, b6⟩
    have K6 := K5.go b6
    have A6 := A5.go b6
    have L6 := L5.go b6
    clear b6
    go_wp2_with fail
    refine (Tx.TextOk_spec s hs _).mono ?_
    rintro e w' ⟨rfl, rfl⟩
    go_wp2_with fail
    refine (Tx.Begins_any _ _ _ _ _ _ aa bb _ (A6.strs SA.out) (A6.strs SB.out) (by omega) (by omega)).mono ?_
    rintro e w7 ⟨rfl, b7⟩
    have K7 := K6.go b7
    have A7 := A6.go b7
    have L7 := L6.go b7
    clear b7
    go_wp2_with fail
    refine (Tx.Begins_spec _ _ _ _ _ _ aa bb _ (A7.strs SA.out) (A7.strs SB.out) (by omega) (by omega) hcb).mono ?_
    rintro e w8 ⟨rfl, q, rfl⟩
    have K8 := K7.go (Tx.drewN_below (Below.refl _ w7) q)
    have A8 := A7.go (Tx.drewN_below (Below.refl _ w7) q)
    have L8 := L7.go (Tx.drewN_below (Below.refl _ w7) q)
    generalize w7.drewN q = w8 at K8 A8 L8 ⊢
    go_wp2_with fail
    refine (Tx.Upto_spec _ _ _ ll most (by omega) hcl hclm.out hsum _ (L8.strs SL.out)).mono ?_
    rintro e w' ⟨rfl, rfl⟩
    rw [HK.out]
    go_wp2_with fail
    refine (Tx.BytesOf_spec _ _ _ ll (by omega) hsum _ (L8.strs SL.out)).mono ?_
    rintro e w' ⟨rfl, rfl⟩
    have ht1 := Tx.sumB_take_le ll K
    have ht2 := Tx.sumB_take_le ll (K + 1)
    by_cases hK0 : 0 < K
    · have h1 := HU2.out hK0
      by_cases hKl : K < ll.length
      · have h2 := HU3.out hKl
        go_wp2_with fail
        refine (Tx.BytesOf_any _ _ _ (ll.take K) (by omega) (by omega) _ ((L8.strs SL.out).take K hU1)).mono ?_
        rintro e w9 ⟨rfl, b9⟩
        have K9 := K8.go b9
        have A9 := A8.go b9
        have L9 := L8.go b9
        clear b9
        go_wp2_with fail
        refine (Tx.BytesOf_any _ _ _ (ll.take (K + 1)) (by omega) (by omega) _ ((L9.strs SL.out).take (K + 1) (by omega))).mono ?_
        rintro e w10 ⟨rfl, b10⟩
        have K10 := K9.go b10
        have A10 := A9.go b10
        clear b10
        go_wp2_with fail
        refine (Tx.Begins_any _ _ _ _ _ _ aa bb _ (A10.strs SA.out) (A10.strs SB.out) (by omega) (by omega)).mono ?_
        rintro e wz ⟨rfl, bz⟩
        have KZ := K10.go bz
        have AZ := A10.go bz
        clear bz
        cases hbg : Tx.beginsB aa bb with
        | false =>
          go_wp2
          go_ret
          exact ⟨rfl, KZ.bel⟩
        | true =>
          obtain ⟨hle, heq⟩ := Tx.begins_parts hbg
          have HEQ := Lib.hid heq
          clear heq
          go_wp2_with fail
          refine (Tx.likeTexts_any _ _ _ _ _ _ aa (bb.take aa.length) _ (AZ.strs SA.out) ((AZ.strs SB.out).take aa.length hle) (by omega) (by omega)).mono ?_
          rintro e wy ⟨rfl, qy, rfl⟩
          rw [HEQ.out]
          go_wp2
          go_ret
          exact ⟨rfl, Tx.drewN_below KZ.bel qy⟩
      · go_wp2_with fail
        refine (Tx.BytesOf_any _ _ _ (ll.take K) (by omega) (by omega) _ ((L8.strs SL.out).take K hU1)).mono ?_
        rintro e w9 ⟨rfl, b9⟩
        have K9 := K8.go b9
        have A9 := A8.go b9
        clear b9
        go_wp2_with fail
        refine (Tx.Begins_any _ _ _ _ _ _ aa bb _ (A9.strs SA.out) (A9.strs SB.out) (by omega) (by omega)).mono ?_
        rintro e wz ⟨rfl, bz⟩
        have KZ := K9.go bz
        have AZ := A9.go bz
        clear bz
        cases hbg : Tx.beginsB aa bb with
        | false =>
          go_wp2
          go_ret
          exact ⟨rfl, KZ.bel⟩
        | true =>
          obtain ⟨hle, heq⟩ := Tx.begins_parts hbg
          have HEQ := Lib.hid heq
          clear heq
          go_wp2_with fail
          refine (Tx.likeTexts_any _ _ _ _ _ _ aa (bb.take aa.length) _ (AZ.strs SA.out) ((AZ.strs SB.out).take aa.length hle) (by omega) (by omega)).mono ?_
          rintro e wy ⟨rfl, qy, rfl⟩
          rw [HEQ.out]
          go_wp2
          go_ret
          exact ⟨rfl, Tx.drewN_below KZ.bel qy⟩
    · by_cases hKl : K < ll.length
      · have h2 := HU3.out hKl
        go_wp2_with fail
        refine (Tx.BytesOf_any _ _ _ (ll.take (K + 1)) (by omega) (by omega) _ ((L8.strs SL.out).take (K + 1) (by omega))).mono ?_
        rintro e w10 ⟨rfl, b10⟩
        have K10 := K8.go b10
        have A10 := A8.go b10
        clear b10
        go_wp2_with fail
        refine (Tx.Begins_any _ _ _ _ _ _ aa bb _ (A10.strs SA.out) (A10.strs SB.out) (by omega) (by omega)).mono ?_
        rintro e wz ⟨rfl, bz⟩
        have KZ := K10.go bz
        have AZ := A10.go bz
        clear bz
        cases hbg : Tx.beginsB aa bb with
        | false =>
          go_wp2
          go_ret
          exact ⟨rfl, KZ.bel⟩
        | true =>
          obtain ⟨hle, heq⟩ := Tx.begins_parts hbg
          have HEQ := Lib.hid heq
          clear heq
          go_wp2_with fail
          refine (Tx.likeTexts_any _ _ _ _ _ _ aa (bb.take aa.length) _ (AZ.strs SA.out) ((AZ.strs SB.out).take aa.length hle) (by omega) (by omega)).mono ?_
          rintro e wy ⟨rfl, qy, rfl⟩
          rw [HEQ.out]
          go_wp2
          go_ret
          exact ⟨rfl, Tx.drewN_below KZ.bel qy⟩
      · go_wp2_with fail
        refine (Tx.Begins_any _ _ _ _ _ _ aa bb _ (A8.strs SA.out) (A8.strs SB.out) (by omega) (by omega)).mono ?_
        rintro e wz ⟨rfl, bz⟩
        have KZ := K8.go bz
        have AZ := A8.go bz
        clear bz
        cases hbg : Tx.beginsB aa bb with
        | false =>
          go_wp2
          go_ret
          exact ⟨rfl, KZ.bel⟩
        | true =>
          obtain ⟨hle, heq⟩ := Tx.begins_parts hbg
          have HEQ := Lib.hid heq
          clear heq
          go_wp2_with fail
          refine (Tx.likeTexts_any _ _ _ _ _ _ aa (bb.take aa.length) _ (AZ.strs SA.out) ((AZ.strs SB.out).take aa.length hle) (by omega) (by omega)).mono ?_
          rintro e wy ⟨rfl, qy, rfl⟩
          rw [HEQ.out]
          go_wp2
          go_ret
          exact ⟨rfl, Tx.drewN_below KZ.bel qy⟩

theorem own : ownKnob Try.prog.godebug = none := by kernel_rfl
theorem laidOut : laidOutB Try.prog = true := by kernel_rfl

set_option maxRecDepth 100000 in
theorem lifted (os : Os) (started : os.Started) (H : Type) (enc : TypeId × Value → H) :
    ReturnsInHanded {} Try.checked os 3 .any (Rows.fnTextsSpec.pre6 enc Try.prog Try.f3 Rows.fnTextsRow.domain false) (Rows.fnTextsSpec.post enc Try.prog Try.f3 false true false false) := by
  refine returnsInHanded_of_change (C := Try.checked) own started (by kernel_rfl) Try.func3
    (ChangeSpec.witness6 (enc := enc) (C := Try.checked) false ⟨#[], #[.slice none 0 0], []⟩ 8 (by kernel_rfl) (by kernel_rfl) (by kernel_rfl) (by kernel_rfl)) ?_
  intro W base args ds gs before hval0 hW hcnd _
  have hval : ∀ (j : Nat) t v, Try.f3.params[j]? = some t → args[j]? = some v → Value.okWide Try.prog W .any base t v := hval0
  have hW' := hW
  obtain ⟨p, q, hA0, hV, rfl, hfz, hnd⟩ := hW
  have hA : DataW.TrodAll enc Try.prog W 0 (fun _ => true) true Try.f3.params.toList args.toList ds p := hA0
  rw [Try.params3] at hA hval
  obtain ⟨v0, vs0, d0, ds0, p0, q0, hargs, rfl, rfl, h0, r0⟩ := trodAll_cons hA
  obtain ⟨rfl, rfl, rfl⟩ := trodAll_nil r0
  obtain rfl : args = #[v0] := by cases args; simp_all
  obtain ⟨rfl, rfl⟩ := trodVars_none hV
  have k0 := h0
  have lt0 : ∀ x ∈ p0, x.block < W.heap.size := by obtain ⟨m, hm⟩ := k0; exact DataW.trod_lt m _ _ _ hm
  obtain ⟨a0, len0, cap0, rfl⟩ := okWide_slice Try.underlying22 (hval 0 22 v0 rfl rfl)
  have w0 : Tx.BytesAt W W.heap.size a0 len0 ∧ len0 ≤ maxLen := by
    obtain ⟨fuel, hf⟩ := h0
    rcases open_ints Try.underlying22 Try.underlying5 (by kernel_rfl) hf with ⟨hcs, _⟩ | ⟨x, l, c, zs, hcs, _, hl, hm, hz, _, hcell, hwz⟩
    · simp [Value.cells] at hcs
      obtain ⟨rfl, rfl, rfl⟩ := hcs
      exact ⟨fun h => absurd h (by omega), by unfold maxLen; omega⟩
    · simp [Value.cells] at hcs
      obtain ⟨rfl, rfl, rfl⟩ := hcs
      simp only [if_true] at hz
      exact ⟨Tx.bytesAt_of_ints (by omega) hcell fun n hn => bounds_u8 (hwz n hn), by omega⟩
  clear hA0 hval0
  refine (walk W a0 len0 cap0 w0.1 w0.2).mono fun e W' ⟨he, bel⟩ => ?_
  subst he
  exact ⟨_, rfl, _, _, _, [], _, [], hW', trodAll_mk1 (shut_bool Try.underlying4 _), (trodAll_cons_mk (Below.trod laidOut (by kernel_rfl) (of_decide_eq_true (by kernel_rfl)) k0 bel lt0) trodAll_mk0), rfl, bel.frame _, fun h => by cases h⟩

theorem over : Rows.fnTextsRow.holds Try.pinned (OpenSpec.ofChange Rows.fnTextsSpec) :=
  OpenClaim.holds_of_wide 3 Try.f3 rfl rfl rfl rfl rfl rfl rfl ⟨rfl, rfl, rfl, rfl, rfl⟩ rfl rfl rfl rfl rfl (by kernel_rfl) Try.func3 (by kernel_rfl)
    (of_decide_eq_true (by kernel_rfl)) (by unfold Func.isWrapper; first | (rw [if_pos (by decide +kernel)]; kernel_rfl) | (rw [if_neg (by decide +kernel)]; exact ⟨rfl, rfl⟩))
    (fun os started H enc _ => lifted os started H enc)

end Go.Proofs.Ytjgkhjdndeiidaa.fnTexts

namespace Go.Proofs.Ytjgkhjdndeiidaa
theorem fnTexts_proved : Rows.FnTextsSaid := fnTexts.over
#print axioms fnTexts_proved
end Go.Proofs.Ytjgkhjdndeiidaa

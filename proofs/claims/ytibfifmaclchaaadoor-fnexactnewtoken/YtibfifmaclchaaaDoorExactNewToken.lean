/-
  The law FnExactNewToken returns true at every five numbers: NewToken of the program and of the model answer alike. Conditions: those that the card itself names (the listed variables of the library hold what its text lays in them).
-/
import Derived.Test.YtibfifmaclchaaaDoorRows
import Derived.WalkKit
import Derived.ProofKit
import Derived.OpenShut
import Derived.ShutString
import Derived.ChangeOld
import Derived.Below
import Derived.SliceStrings
import Derived.Lib.SmallJoins
import Derived.Test.YtibfifmaclchaaaDoorCards
import Derived.Test.YtibfifmaclchaaaDoorTie
import Derived.LaidMore
import Derived.Stop.Joined
import Derived.SevenTiedAt
import Derived.Test.YtibfifmaclchaaaDoorTok
import Derived.Test.YtibfifmaclchaaaDoorTokText
import Derived.Test.YtibfifmaclchaaaDoorImpl6c
import Derived.Test.YtibfifmaclchaaaDoorLaid
namespace Go.Proofs.YtibfifmaclchaaaDoor.fnExactNewToken
open Go.ChangeShapes Go.WideShapes Go.ChangeAt Go.RowKit
open Go.ChangeMaps (open_string shut_string)
set_option linter.unusedVariables false

set_option maxHeartbeats 4000000 in
theorem walk (w : World) (i : Int) (hi0 : (Lit.int .i64 i).wf = true) (s : Int) (hs0 : (Lit.int .i64 s).wf = true) (b : Int) (hb0 : (Lit.int .i64 b).wf = true) (l : Int) (hl0 : (Lit.int .i64 l).wf = true) (m : Int) (hm0 : (Lit.int .i64 m).wf = true) (ht : Tx.Tab w) :
    Calls Tryd.prog 3 #[.int .i64 i, .int .i64 s, .int .i64 b, .int .i64 l, .int .i64 m] w fun e w' => e = .returned (.bool true) ∧ Below w.heap.size w w' := by
  have hi : Hid (Tx.I64 i) := bounds_i64 hi0
  have hs : Hid (Tx.I64 s) := bounds_i64 hs0
  have hb : Hid (Tx.I64 b) := bounds_i64 hb0
  have hl : Hid (Tx.I64 l) := bounds_i64 hl0
  have hm : Hid (Tx.I64 m) := bounds_i64 hm0
  have HTB := Lib.hid ht
  clear hi0 hs0 hb0 hl0 hm0 ht
  have K := Lib.hid (Below.refl w.heap.size w)
  obtain ⟨⟨ts, tb, tl, tm, ⟨⟨xu, xs, xh, xa⟩, xn, xt, xp⟩⟩, ht⟩ : ∃ x, Tx.newTokV i s b l m = x := ⟨_, rfl⟩
  obtain ⟨y, hy⟩ : ∃ x, Tx.newTokB i s b l m = x := ⟨_, rfl⟩
  have HT := Lib.hid ht
  have HY := Lib.hid hy
  clear ht hy
  have HV : Hid (Tx.TokV.val ⟨ts, tb, tl, tm, ⟨⟨xu, xs, xh, xa⟩, xn, xt, xp⟩⟩ = .agg #[.int .i64 ts, .int .i64 tb, .int .i64 tl, .int .i64 tm, .int .i64 xu, .int .i64 xs, .int .i64 xh, .int .i64 xa, .int .i64 xn, .string xt, .bool xp]) := rfl
  go_enter Tryd.func3, Tryd.ntmps3
  go_wp2_with fail
  refine (Tx.NewToken_spec i s b l m hs.out hb.out hl.out hm.out _).mono ?_
  rintro e w1 ⟨rfl, bw1⟩
  replace K := Lib.hid (K.out.trans (bw1.mono K.out.size))
  have sw1 := bw1.size
  clear bw1
  rw [HT.out, HY.out, HV.out]
  obtain ⟨W2, hW2⟩ : ∃ W, w1.alloc (.cells #[.int .i64 ts, .int .i64 tb, .int .i64 tl, .int .i64 tm, .int .i64 xu, .int .i64 xs, .int .i64 xh, .int .i64 xa, .int .i64 xn, .string xt, .bool xp] 27) = W := ⟨_, rfl⟩
  have bW2 : Below w1.heap.size w1 W2 := hW2 ▸ (Below.refl _ w1).alloc (Nat.le_refl _) _
  replace K := Lib.hid (K.out.trans (bW2.mono K.out.size))
  have G11 : Hid (W2.heap[w1.heap.size]? = some (.cells #[.int .i64 ts, .int .i64 tb, .int .i64 tl, .int .i64 tm, .int .i64 xu, .int .i64 xs, .int .i64 xh, .int .i64 xa, .int .i64 xn, .string xt, .bool xp] 27)) := by rw [← hW2]; exact Tx.heap1 w1 _
  have sW2 : w1.heap.size < W2.heap.size := by rw [← hW2]; simp
  clear bW2
  go_wp2_with fail
  clear hW2
  refine (Tx.NewToken_impl i s b l m hs.out hb.out hl.out hm.out _ (HTB.out.on K.out)).mono ?_
  rintro e w3 ⟨rfl, bw3⟩
  replace K := Lib.hid (K.out.trans (bw3.mono K.out.size))
  replace G11 := Lib.hid (Tx.blk_on bw3 G11.out)
  have sw3 := bw3.size
  clear bw3
  rw [HT.out, HY.out, HV.out]
  obtain ⟨W4, hW4⟩ : ∃ W, w3.alloc (.cells #[.int .i64 ts, .int .i64 tb, .int .i64 tl, .int .i64 tm, .int .i64 xu, .int .i64 xs, .int .i64 xh, .int .i64 xa, .int .i64 xn, .string xt, .bool xp] 27) = W := ⟨_, rfl⟩
  have bW4 : Below w3.heap.size w3 W4 := hW4 ▸ (Below.refl _ w3).alloc (Nat.le_refl _) _
  replace K := Lib.hid (K.out.trans (bW4.mono K.out.size))
  replace G11 := Lib.hid (Tx.blk_on bW4 G11.out)
  have G13 : Hid (W4.heap[w3.heap.size]? = some (.cells #[.int .i64 ts, .int .i64 tb, .int .i64 tl, .int .i64 tm, .int .i64 xu, .int .i64 xs, .int .i64 xh, .int .i64 xa, .int .i64 xn, .string xt, .bool xp] 27)) := by rw [← hW4]; exact Tx.heap1 w3 _
  have sW4 : w3.heap.size < W4.heap.size := by rw [← hW4]; simp
  clear bW4
  obtain ⟨⟨c0, c1, c2, c3, c4, c5, c6, c7, c8, c9, c10⟩, _⟩ := Tx.blk11 G11.out
  obtain ⟨⟨d0, d1, d2, d3, d4, d5, d6, d7, d8, d9, d10⟩, _⟩ := Tx.blk11 G13.out
  go_wp2_with fail
  clear hW4 c0 d0 c1 d1 c2 d2 c3 d3 c4 d4 c5 d5 c6 d6 c7 d7 c8 d8 c9 d9 c10 d10
  refine (Tx.eqToken_same ⟨ts, tb, tl, tm, ⟨⟨xu, xs, xh, xa⟩, xn, xt, xp⟩⟩ _).mono ?_
  rintro e w5 ⟨rfl, bw5⟩
  replace K := Lib.hid (K.out.trans (bw5.mono K.out.size))
  replace G11 := Lib.hid (Tx.blk_on bw5 G11.out)
  replace G13 := Lib.hid (Tx.blk_on bw5 G13.out)
  have sw5 := bw5.size
  clear bw5
  have hyy : (y != y) = false := by simp
  go_wp2
  go_ret
  exact ⟨rfl, K.out⟩

theorem door_met (os : Os) (args : Array Value) : laidMetH Tryd.prog Rows.fnExactNewTokenRow.laid ((Tx.doorWorld os).forCall (fun _ _ => 0) ⟨#[], args, []⟩).memory := by
  rw [MakeChecks.laidMetH_plain _ _ _ (by kernel_rfl)]
  exact laidMet_of_run' 8 (by kernel_rfl) (by kernel_rfl)
theorem tab {W : World} (h : laidMetH Tryd.prog Rows.fnExactNewTokenRow.laid W) : Tx.Tab W := by
  rw [MakeChecks.laidMetH_plain _ _ _ (by kernel_rfl)] at h
  exact Tx.tab_of (laidMet.tail (laidMet.tail h))

theorem own : ownKnob Tryd.prog.godebug = none := by kernel_rfl
theorem laidOut : laidOutB Tryd.prog = true := by kernel_rfl

set_option maxRecDepth 100000 in
theorem lifted (os : Os) (started : os.Started) (H : Type) (enc : TypeId × Value → H) :
    ReturnsInHanded {} Tryd.checked os 3 .any (fun w args => (Rows.fnExactNewTokenSpec.pre enc Tryd.prog Tryd.f3 [] false w args ∧ laidMetH Tryd.prog Rows.fnExactNewTokenRow.laid w) ∧ sizedMet enc Tryd.prog Tryd.f3 (OpenSpec.ofChange Rows.fnExactNewTokenSpec) false w args)
      (Rows.fnExactNewTokenSpec.post enc Tryd.prog Tryd.f3 false true false false) := by
  refine returnsInHanded_of_change_and (C := Tryd.checked) (X := fun w _ => laidMetH Tryd.prog Rows.fnExactNewTokenRow.laid w) (fun _ _ _ hh h => h.of_heap hh) own started (by kernel_rfl) Tryd.func3
    (ChangeSpec.witness_shaped (enc := enc) (C := Tryd.checked) (os := os) (X := fun w _ => laidMetH Tryd.prog Rows.fnExactNewTokenRow.laid w) false (Tx.doorWorld os) #[.int .i64 0, .int .i64 0, .int .i64 0, .int .i64 0, .int .i64 0] 8 rfl (Tx.door_shaped os _) (by kernel_rfl) (by kernel_rfl) (by kernel_rfl) (door_met os _)) ?_
  intro W base args ds gs before hval0 hW _ _ hL hsh
  have hval : ∀ (j : Nat) t v, Tryd.f3.params[j]? = some t → args[j]? = some v → Value.okWide Tryd.prog W .any base t v := hval0
  have hW' := hW
  obtain ⟨p, q, hA0, hV, rfl, hfz, hnd⟩ := hW
  have hA : DataW.TrodAll enc Tryd.prog W 0 (fun _ => true) true Tryd.f3.params.toList args.toList ds p := hA0
  rw [Tryd.params3] at hA hval
  obtain ⟨v0, vs0, d0, ds0, p0, q0, hargs, rfl, rfl, h0, r0⟩ := trodAll_cons hA
  obtain ⟨v1, vs1, d1, ds1, p1, q1, rfl, rfl, rfl, h1, r1⟩ := trodAll_cons r0
  obtain ⟨v2, vs2, d2, ds2, p2, q2, rfl, rfl, rfl, h2, r2⟩ := trodAll_cons r1
  obtain ⟨v3, vs3, d3, ds3, p3, q3, rfl, rfl, rfl, h3, r3⟩ := trodAll_cons r2
  obtain ⟨v4, vs4, d4, ds4, p4, q4, rfl, rfl, rfl, h4, r4⟩ := trodAll_cons r3
  obtain ⟨rfl, rfl, rfl⟩ := trodAll_nil r4
  obtain rfl : args = #[v0, v1, v2, v3, v4] := by cases args; simp_all
  obtain ⟨rfl, rfl⟩ := trodVars_none hV
  have k0 := h0
  have lt0 : ∀ x ∈ p0, x.block < W.heap.size := by obtain ⟨m, hm⟩ := k0; exact DataW.trod_lt m _ _ _ hm
  have k1 := h1
  have lt1 : ∀ x ∈ p1, x.block < W.heap.size := by obtain ⟨m, hm⟩ := k1; exact DataW.trod_lt m _ _ _ hm
  have k2 := h2
  have lt2 : ∀ x ∈ p2, x.block < W.heap.size := by obtain ⟨m, hm⟩ := k2; exact DataW.trod_lt m _ _ _ hm
  have k3 := h3
  have lt3 : ∀ x ∈ p3, x.block < W.heap.size := by obtain ⟨m, hm⟩ := k3; exact DataW.trod_lt m _ _ _ hm
  have k4 := h4
  have lt4 : ∀ x ∈ p4, x.block < W.heap.size := by obtain ⟨m, hm⟩ := k4; exact DataW.trod_lt m _ _ _ hm
  obtain ⟨a0, rfl, rfl, rfl, w0⟩ := open_int Tryd.underlying2 (hval 0 2 v0 rfl rfl) h0
  obtain ⟨a1, rfl, rfl, rfl, w1⟩ := open_int Tryd.underlying2 (hval 1 2 v1 rfl rfl) h1
  obtain ⟨a2, rfl, rfl, rfl, w2⟩ := open_int Tryd.underlying2 (hval 2 2 v2 rfl rfl) h2
  obtain ⟨a3, rfl, rfl, rfl, w3⟩ := open_int Tryd.underlying2 (hval 3 2 v3 rfl rfl) h3
  obtain ⟨a4, rfl, rfl, rfl, w4⟩ := open_int Tryd.underlying2 (hval 4 2 v4 rfl rfl) h4
  clear hA0 hval0
  refine (walk W a0 w0 a1 w1 a2 w2 a3 w3 a4 w4 (tab hL)).mono fun e W' ⟨he, bel⟩ => ?_
  subst he
  exact ⟨_, rfl, _, _, _, [], _, [], hW', trodAll_mk1 (shut_bool Tryd.underlying4 _), (trodAll_cons_mk (Below.trod laidOut (by kernel_rfl) (of_decide_eq_true (by kernel_rfl)) k0 bel lt0) (trodAll_cons_mk (Below.trod laidOut (by kernel_rfl) (of_decide_eq_true (by kernel_rfl)) k1 bel lt1) (trodAll_cons_mk (Below.trod laidOut (by kernel_rfl) (of_decide_eq_true (by kernel_rfl)) k2 bel lt2) (trodAll_cons_mk (Below.trod laidOut (by kernel_rfl) (of_decide_eq_true (by kernel_rfl)) k3 bel lt3) (trodAll_cons_mk (Below.trod laidOut (by kernel_rfl) (of_decide_eq_true (by kernel_rfl)) k4 bel lt4) trodAll_mk0))))), rfl, bel.frame _, fun h => by cases h⟩

theorem over : Rows.fnExactNewTokenRow.holds Tryd.pinned (OpenSpec.ofChange Rows.fnExactNewTokenSpec) :=
  OpenClaim.holds_of_wide 3 Tryd.f3 rfl rfl rfl rfl rfl rfl rfl ⟨rfl, rfl, rfl, rfl, rfl⟩ rfl rfl rfl rfl rfl (by kernel_rfl) Tryd.func3 (by kernel_rfl)
    (of_decide_eq_true (by kernel_rfl)) (by unfold Func.isWrapper; first | (rw [if_pos (by decide +kernel)]; kernel_rfl) | (rw [if_neg (by decide +kernel)]; exact ⟨rfl, rfl⟩))
    (fun os started H enc _ => lifted os started H enc)

end Go.Proofs.YtibfifmaclchaaaDoor.fnExactNewToken

namespace Go.Proofs.YtibfifmaclchaaaDoor
theorem fnExactNewToken_proved : Rows.FnExactNewTokenCardSaid :=
  Claim7.holds_tied_plain_at .later [] Rows.fnExactNewTokenCard.laidKinds true Rows.fnExactNewTokenCard.stood.harness true
    fnExactNewToken.over (fun _ h => by cases h) (by kernel_rfl) (fun _ h => by cases h) fnExactNewToken_row_tie rfl ⟨rfl, rfl⟩ (by kernel_rfl) rfl
    (fun f fn hf hfn => by
      obtain rfl : f = 3 := Option.some.inj ((show Tryd.prog.funcNamed Rows.fnExactNewTokenRow.func = some 3 by kernel_rfl).symm.trans hf) |>.symm
      obtain rfl : fn = Tryd.f3 := (Option.some.inj (Tryd.func3.symm.trans hfn)).symm
      exact ⟨by kernel_rfl, fun j t ht => by
        rw [Tryd.params3] at ht
        have hm : t ∈ [2, 2, 2, 2, 2] := by simpa using Array.mem_of_getElem? ht
        have hall : ([2, 2, 2, 2, 2].all fun u => !Tryd.prog.wantsStandIn u) = true := by kernel_rfl
        exact (show Tryd.prog.wantsStandIn t = false by simpa using List.all_eq_true.1 hall t hm)⟩)
    (by kernel_rfl)
#print axioms fnExactNewToken_proved
end Go.Proofs.YtibfifmaclchaaaDoor

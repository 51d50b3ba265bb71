/-
  The law FnExactUnsealed returns true at every number and box, and they read behind the call as they read before: Unsealed of the program and of the model answer alike. Conditions: those that the card itself names (the listed variables of the library hold what its text lays in them).
-/
import Derived.Test.YtibfifmaclchaaaDoorRows
import Derived.WalkKit
import Derived.ProofKit
import Derived.OpenShut
import Derived.ShutString
import Derived.ChangeOld
import Derived.Below
import Derived.SliceStrings
import Derived.Lib.SmallJoins
import Derived.Test.YtibfifmaclchaaaDoorCards
import Derived.Test.YtibfifmaclchaaaDoorTie
import Derived.LaidMore
import Derived.Stop.Joined
import Derived.SevenTiedAt
import Derived.Test.YtibfifmaclchaaaDoorOpen4
import Derived.Test.YtibfifmaclchaaaDoorTok
import Derived.Test.YtibfifmaclchaaaDoorUnseal
import Derived.Test.YtibfifmaclchaaaDoorImpl6f
import Derived.Test.YtibfifmaclchaaaDoorLaid2
namespace Go.Proofs.YtibfifmaclchaaaDoor.fnExactUnsealed
open Go.ChangeShapes Go.WideShapes Go.ChangeAt Go.RowKit
open Go.ChangeMaps (open_string shut_string)
set_option linter.unusedVariables false

set_option maxHeartbeats 4000000 in
theorem walk (w : World) (i : Int) (hi0 : (Lit.int .i64 i).wf = true) (b : Tx.BoxV) (hb : b.t.size ≤ maxLen) (hg : Tx.Glob w) :
    Calls Tryd.prog 4 #[.int .i64 i, b.val] w fun e w' => e = .returned (.bool true) ∧ Below w.heap.size w w' := by
  obtain ⟨⟨xu, xs, xh, xa⟩, xn, xt, xp⟩ := b
  have hi : Hid (Tx.I64 i) := bounds_i64 hi0
  have hb' : xt.size ≤ 9223372036854775807 := by have e : (2 : Nat) ^ 63 - 1 = 9223372036854775807 := rfl; rw [← e]; exact hb
  have HGB := Lib.hid hg
  clear hb hi0 hg
  have HV : Hid (Tx.BoxV.val ⟨⟨xu, xs, xh, xa⟩, xn, xt, xp⟩ = .agg #[.int .i64 xu, .int .i64 xs, .int .i64 xh, .int .i64 xa, .int .i64 xn, .string xt, .bool xp]) := rfl
  rw [HV.out]
  obtain ⟨W0, hW0⟩ : ∃ W, w.alloc (.cells #[.int .i64 xu, .int .i64 xs, .int .i64 xh, .int .i64 xa, .int .i64 xn, .string xt, .bool xp] 34) = W := ⟨_, rfl⟩
  have K : Hid (Below w.heap.size w W0) := by rw [← hW0]; exact (Below.refl _ w).alloc (Nat.le_refl _) _
  have GB : Hid (W0.heap[w.heap.size]? = some (.cells #[.int .i64 xu, .int .i64 xs, .int .i64 xh, .int .i64 xa, .int .i64 xn, .string xt, .bool xp] 34)) := by rw [← hW0]; exact Tx.heap1 w _
  obtain ⟨⟨ts, tb, tl, tm, ⟨⟨yu, ys, yh, ya⟩, yn, yt, yp⟩⟩, ht⟩ : ∃ x, (Tx.unsealO i ⟨⟨xu, xs, xh, xa⟩, xn, xt, xp⟩).getD .zero = x := ⟨_, rfl⟩
  obtain ⟨y, hy⟩ : ∃ x, (Tx.unsealO i ⟨⟨xu, xs, xh, xa⟩, xn, xt, xp⟩).isSome = x := ⟨_, rfl⟩
  have HT := Lib.hid ht
  have HY := Lib.hid hy
  clear ht hy
  have HVT : Hid (Tx.TokV.val ⟨ts, tb, tl, tm, ⟨⟨yu, ys, yh, ya⟩, yn, yt, yp⟩⟩ = .agg #[.int .i64 ts, .int .i64 tb, .int .i64 tl, .int .i64 tm, .int .i64 yu, .int .i64 ys, .int .i64 yh, .int .i64 ya, .int .i64 yn, .string yt, .bool yp]) := rfl
  go_enter Tryd.func4, Tryd.ntmps4
  obtain ⟨⟨c0, c1, c2, c3, c4, c5, c6⟩, _⟩ := Tx.blk7 GB.out
  go_wp2_with fail
  clear c0 c1 c2 c3 c4 c5 c6 hW0
  refine (Tx.szBox_any ⟨⟨xu, xs, xh, xa⟩, xn, xt, xp⟩ hb' _ (by omega) (by omega) _).mono ?_
  rintro e w1 ⟨rfl, bw1⟩
  replace GB := Lib.hid (Tx.blk_on bw1 GB.out)
  replace K := Lib.hid (K.out.trans (bw1.mono K.out.size))
  have sw1 := bw1.size
  clear bw1
  obtain ⟨lf, hlf⟩ : ∃ lf, Tx.szLeft 1048576 xt.size = lf := ⟨_, rfl⟩
  dsimp only
  rw [hlf]
  clear hlf
  by_cases hl : lf < 0
  · go_wp2
    go_ret
    exact ⟨rfl, K.out⟩
  obtain ⟨⟨c0, c1, c2, c3, c4, c5, c6⟩, _⟩ := Tx.blk7 GB.out
  go_wp2_with fail
  clear c0 c1 c2 c3 c4 c5 c6
  refine (Tx.toBox_any ⟨⟨xu, xs, xh, xa⟩, xn, xt, xp⟩ _).mono ?_
  rintro e w2 ⟨rfl, bw2⟩
  replace GB := Lib.hid (Tx.blk_on bw2 GB.out)
  replace K := Lib.hid (K.out.trans (bw2.mono K.out.size))
  have sw2 := bw2.size
  clear bw2
  go_wp2_with fail
  refine (Tx.Unsealed_spec i ⟨⟨xu, xs, xh, xa⟩, xn, xt, xp⟩ _).mono ?_
  rintro e w3 ⟨rfl, bw3⟩
  replace GB := Lib.hid (Tx.blk_on bw3 GB.out)
  replace K := Lib.hid (K.out.trans (bw3.mono K.out.size))
  have sw3 := bw3.size
  clear bw3
  rw [HT.out, HY.out, HVT.out]
  obtain ⟨W4, hW4⟩ : ∃ W, w3.alloc (.cells #[.int .i64 ts, .int .i64 tb, .int .i64 tl, .int .i64 tm, .int .i64 yu, .int .i64 ys, .int .i64 yh, .int .i64 ya, .int .i64 yn, .string yt, .bool yp] 27) = W := ⟨_, rfl⟩
  have bW4 : Below w3.heap.size w3 W4 := hW4 ▸ (Below.refl _ w3).alloc (Nat.le_refl _) _
  replace GB := Lib.hid (Tx.blk_on bW4 GB.out)
  replace K := Lib.hid (K.out.trans (bW4.mono K.out.size))
  have G6 : Hid (W4.heap[w3.heap.size]? = some (.cells #[.int .i64 ts, .int .i64 tb, .int .i64 tl, .int .i64 tm, .int .i64 yu, .int .i64 ys, .int .i64 yh, .int .i64 ya, .int .i64 yn, .string yt, .bool yp] 27)) := by rw [← hW4]; exact Tx.heap1 w3 _
  have sW4 : w3.heap.size < W4.heap.size := by rw [← hW4]; simp
  clear bW4
  obtain ⟨⟨c0, c1, c2, c3, c4, c5, c6⟩, _⟩ := Tx.blk7 GB.out
  go_wp2_with fail
  clear c0 c1 c2 c3 c4 c5 c6 hW4
  refine (Tx.toBox_any ⟨⟨xu, xs, xh, xa⟩, xn, xt, xp⟩ _).mono ?_
  rintro e w6 ⟨rfl, bw6⟩
  replace GB := Lib.hid (Tx.blk_on bw6 GB.out)
  replace K := Lib.hid (K.out.trans (bw6.mono K.out.size))
  replace G6 := Lib.hid (Tx.blk_on bw6 G6.out)
  have sw6 := bw6.size
  clear bw6
  go_wp2_with fail
  refine (Tx.Unsealed_impl i ⟨⟨xu, xs, xh, xa⟩, xn, xt, xp⟩ _ (HGB.out.on K.out)).mono ?_
  rintro e w7 ⟨rfl, bw7⟩
  replace GB := Lib.hid (Tx.blk_on bw7 GB.out)
  replace K := Lib.hid (K.out.trans (bw7.mono K.out.size))
  replace G6 := Lib.hid (Tx.blk_on bw7 G6.out)
  have sw7 := bw7.size
  clear bw7
  rw [HT.out, HY.out, HVT.out]
  obtain ⟨W8, hW8⟩ : ∃ W, w7.alloc (.cells #[.int .i64 ts, .int .i64 tb, .int .i64 tl, .int .i64 tm, .int .i64 yu, .int .i64 ys, .int .i64 yh, .int .i64 ya, .int .i64 yn, .string yt, .bool yp] 27) = W := ⟨_, rfl⟩
  have bW8 : Below w7.heap.size w7 W8 := hW8 ▸ (Below.refl _ w7).alloc (Nat.le_refl _) _
  replace GB := Lib.hid (Tx.blk_on bW8 GB.out)
  replace K := Lib.hid (K.out.trans (bW8.mono K.out.size))
  replace G6 := Lib.hid (Tx.blk_on bW8 G6.out)
  have G8 : Hid (W8.heap[w7.heap.size]? = some (.cells #[.int .i64 ts, .int .i64 tb, .int .i64 tl, .int .i64 tm, .int .i64 yu, .int .i64 ys, .int .i64 yh, .int .i64 ya, .int .i64 yn, .string yt, .bool yp] 27)) := by rw [← hW8]; exact Tx.heap1 w7 _
  have sW8 : w7.heap.size < W8.heap.size := by rw [← hW8]; simp
  clear bW8
  obtain ⟨⟨c0, c1, c2, c3, c4, c5, c6, c7, c8, c9, c10⟩, _⟩ := Tx.blk11 G6.out
  obtain ⟨⟨d0, d1, d2, d3, d4, d5, d6, d7, d8, d9, d10⟩, _⟩ := Tx.blk11 G8.out
  go_wp2_with fail
  clear hW8 c0 d0 c1 d1 c2 d2 c3 d3 c4 d4 c5 d5 c6 d6 c7 d7 c8 d8 c9 d9 c10 d10
  refine (Tx.eqToken_same ⟨ts, tb, tl, tm, ⟨⟨yu, ys, yh, ya⟩, yn, yt, yp⟩⟩ _).mono ?_
  rintro e w9 ⟨rfl, bw9⟩
  replace GB := Lib.hid (Tx.blk_on bw9 GB.out)
  replace K := Lib.hid (K.out.trans (bw9.mono K.out.size))
  replace G6 := Lib.hid (Tx.blk_on bw9 G6.out)
  replace G8 := Lib.hid (Tx.blk_on bw9 G8.out)
  have sw9 := bw9.size
  clear bw9
  have hyy : (y != y) = false := by simp
  go_wp2
  go_ret
  exact ⟨rfl, K.out⟩

theorem star : "*errors.errorString" = "*" ++ "errors.errorString" := by decide
theorem rowE (u : TypeId) (h : Tryd.prog.typeName? 3 u = some "*errors.errorString") : u = 140 :=
  typeName_ptr_named (nm := "errors.errorString") (by rw [← star]; kernel_rfl) (by kernel_rfl) (by decide) u (by rw [← star]; exact h)
theorem glob {W : World} (h : laidMetH Tryd.prog Rows.fnExactUnsealedRow.laid W) (hsh : W.ShapedOpen Tryd.prog) : Tx.Glob W := by
  rw [MakeChecks.laidMetH_plain _ _ _ (by kernel_rfl)] at h
  have h2 := laidMet.tail (laidMet.tail h)
  have h4 := laidMet.tail (laidMet.tail h2)
  have h5 := laidMet.tail h4
  obtain ⟨a, _, e1, _⟩ := laid_sentinel h4 (g := 3) (by kernel_rfl) (by kernel_rfl) Tryd.underlying78 rowE Tryd.underlying140 Tryd.underlying142 rfl rfl Tryd.underlying9 (by kernel_rfl) (by kernel_rfl)
  obtain ⟨c, _, e2, _⟩ := laid_sentinel h5 (g := 2) (by kernel_rfl) (by kernel_rfl) Tryd.underlying78 rowE Tryd.underlying140 Tryd.underlying142 rfl rfl Tryd.underlying9 (by kernel_rfl) (by kernel_rfl)
  exact ⟨Tx.tab_of h2, ⟨_, _, e2⟩, ⟨_, _, e1⟩, cell_of_shapedOpen_int (t := 3) (zero := #[.int .i64 0]) hsh (by decide +kernel) (by kernel_rfl) rfl (by kernel_rfl) (by kernel_rfl) Tryd.underlying3⟩

theorem own : ownKnob Tryd.prog.godebug = none := by kernel_rfl
theorem laidOut : laidOutB Tryd.prog = true := by kernel_rfl

set_option maxRecDepth 100000 in
theorem lifted (os : Os) (started : os.Started) (H : Type) (enc : TypeId × Value → H) :
    ReturnsInHanded {} Tryd.checked os 4 .any (fun w args => (Rows.fnExactUnsealedSpec.pre enc Tryd.prog Tryd.f4 [] false w args ∧ laidMetH Tryd.prog Rows.fnExactUnsealedRow.laid w) ∧ sizedMet enc Tryd.prog Tryd.f4 (OpenSpec.ofChange Rows.fnExactUnsealedSpec) false w args)
      (Rows.fnExactUnsealedSpec.post enc Tryd.prog Tryd.f4 false true false false) := by
  refine Tx.returns_and_shaped (C := Tryd.checked) (X := fun w _ => laidMetH Tryd.prog Rows.fnExactUnsealedRow.laid w) (fun _ _ _ hh h => h.of_heap hh) own started (by kernel_rfl) Tryd.func4
    (ChangeSpec.witness_shaped (enc := enc) (C := Tryd.checked) (os := os) (X := fun w _ => laidMetH Tryd.prog Rows.fnExactUnsealedRow.laid w) false (World.laidAll Tryd.prog os Rows.fnExactUnsealedRow.laid) #[.int .i64 0, .agg #[.int .i64 0, .int .i64 0, .int .i64 0, .int .i64 0, .int .i64 0, .string ByteArray.empty, .bool false]] 8 (World.laidAll_os _ _ _) (World.shaped_of_ZipB (by kernel_rfl) (by kernel_rfl)) (by kernel_rfl) (by kernel_rfl) (by kernel_rfl) (by rw [MakeChecks.laidMetH_plain _ _ _ (by kernel_rfl)]; exact laidMet_laidAll _ (by kernel_rfl) (by kernel_rfl))) ?_
  intro W base args ds gs before hval0 hW hL hsh
  have hval : ∀ (j : Nat) t v, Tryd.f4.params[j]? = some t → args[j]? = some v → Value.okWide Tryd.prog W .any base t v := hval0
  have hW' := hW
  obtain ⟨p, q, hA0, hV, rfl, hfz, hnd⟩ := hW
  have hA : DataW.TrodAll enc Tryd.prog W 0 (fun _ => true) true Tryd.f4.params.toList args.toList ds p := hA0
  rw [Tryd.params4] at hA hval
  obtain ⟨v0, vs0, d0, ds0, p0, q0, hargs, rfl, rfl, h0, r0⟩ := trodAll_cons hA
  obtain ⟨v1, vs1, d1, ds1, p1, q1, rfl, rfl, rfl, h1, r1⟩ := trodAll_cons r0
  obtain ⟨rfl, rfl, rfl⟩ := trodAll_nil r1
  obtain rfl : args = #[v0, v1] := by cases args; simp_all
  obtain ⟨rfl, rfl⟩ := trodVars_none hV
  have k0 := h0
  have lt0 : ∀ x ∈ p0, x.block < W.heap.size := by obtain ⟨m, hm⟩ := k0; exact DataW.trod_lt m _ _ _ hm
  have k1 := h1
  have lt1 : ∀ x ∈ p1, x.block < W.heap.size := by obtain ⟨m, hm⟩ := k1; exact DataW.trod_lt m _ _ _ hm
  obtain ⟨a0, rfl, rfl, rfl, w0⟩ := open_int Tryd.underlying2 (hval 0 2 v0 rfl rfl) h0
  obtain ⟨b1, rfl, w1⟩ := Tx.open_box (hval 1 34 v1 rfl rfl) h1
  clear hA0 hval0
  refine (walk W a0 w0 b1 w1 (glob hL hsh)).mono fun e W' ⟨he, bel⟩ => ?_
  subst he
  exact ⟨_, rfl, _, _, _, [], _, [], hW', trodAll_mk1 (shut_bool Tryd.underlying4 _), (trodAll_cons_mk (Below.trod laidOut (by kernel_rfl) (of_decide_eq_true (by kernel_rfl)) k0 bel lt0) (trodAll_cons_mk (Below.trod laidOut (by kernel_rfl) (of_decide_eq_true (by kernel_rfl)) k1 bel lt1) trodAll_mk0)), rfl, bel.frame _, fun h => by cases h⟩

theorem over : Rows.fnExactUnsealedRow.holds Tryd.pinned (OpenSpec.ofChange Rows.fnExactUnsealedSpec) :=
  OpenClaim.holds_of_wide 4 Tryd.f4 rfl rfl rfl rfl rfl rfl rfl ⟨rfl, rfl, rfl, rfl, rfl⟩ rfl rfl rfl rfl rfl (by kernel_rfl) Tryd.func4 (by kernel_rfl)
    (of_decide_eq_true (by kernel_rfl)) (by unfold Func.isWrapper; first | (rw [if_pos (by decide +kernel)]; kernel_rfl) | (rw [if_neg (by decide +kernel)]; exact ⟨rfl, rfl⟩))
    (fun os started H enc _ => lifted os started H enc)

end Go.Proofs.YtibfifmaclchaaaDoor.fnExactUnsealed

namespace Go.Proofs.YtibfifmaclchaaaDoor
theorem fnExactUnsealed_proved : Rows.FnExactUnsealedCardSaid :=
  Claim7.holds_tied_plain_at .later [] Rows.fnExactUnsealedCard.laidKinds true Rows.fnExactUnsealedCard.stood.harness true
    fnExactUnsealed.over (fun _ h => by cases h) (by kernel_rfl) (fun _ h => by cases h) fnExactUnsealed_row_tie rfl ⟨rfl, rfl⟩ (by kernel_rfl) rfl
    (fun f fn hf hfn => by
      obtain rfl : f = 4 := Option.some.inj ((show Tryd.prog.funcNamed Rows.fnExactUnsealedRow.func = some 4 by kernel_rfl).symm.trans hf) |>.symm
      obtain rfl : fn = Tryd.f4 := (Option.some.inj (Tryd.func4.symm.trans hfn)).symm
      exact ⟨by kernel_rfl, fun j t ht => by
        rw [Tryd.params4] at ht
        have hm : t ∈ [2, 34] := by simpa using Array.mem_of_getElem? ht
        have hall : ([2, 34].all fun u => !Tryd.prog.wantsStandIn u) = true := by kernel_rfl
        exact (show Tryd.prog.wantsStandIn t = false by simpa using List.all_eq_true.1 hall t hm)⟩)
    (by kernel_rfl)
#print axioms fnExactUnsealed_proved
end Go.Proofs.YtibfifmaclchaaaDoor

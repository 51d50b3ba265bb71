/-
  The law FnExactAnswering returns true at every hello, draw, pick and secret: Answering of the program and of the model answer alike. Conditions: those that the card itself names (the listed variables of the library hold what its text lays in them).
-/
import Derived.Test.YtdnkpdfhnpmhbaaDoorRows
import Derived.WalkKit
import Derived.ProofKit
import Derived.OpenShut
import Derived.ShutString
import Derived.ChangeOld
import Derived.Below
import Derived.SliceStrings
import Derived.Lib.SmallJoins
import Derived.Test.YtdnkpdfhnpmhbaaDoorCards
import Derived.Test.YtdnkpdfhnpmhbaaDoorTie
import Derived.LaidMore
import Derived.Stop.Joined
import Derived.SevenTiedAt
import Derived.Test.YtdnkpdfhnpmhbaaDoorAns2
import Derived.Test.YtdnkpdfhnpmhbaaDoorImpl11c
import Derived.Test.YtdnkpdfhnpmhbaaDoorLaid
namespace Go.Proofs.YtdnkpdfhnpmhbaaDoor.fnExactAnswering
open Go.ChangeShapes Go.WideShapes Go.ChangeAt Go.RowKit
open Go.ChangeMaps (open_string shut_string)
set_option linter.unusedVariables false

set_option maxHeartbeats 8000000 in
theorem walk (w : World) (h : Int) (_ : (Lit.int .i64 h).wf = true) (d : Int) (_ : (Lit.int .i64 d).wf = true) (p : Int) (hp : (Lit.int .i64 p).wf = true) (s : Int) (_ : (Lit.int .i64 s).wf = true) (ht : Tx.Tab w) :
    Calls Tryd.prog 4 #[.int .i64 h, .int .i64 d, .int .i64 p, .int .i64 s] w fun e w' => e = .returned (.bool true) ∧ Below w.heap.size w w' := by
  have hi : Tx.I64 p := bounds_i64 hp
  have HTB := Lib.hid ht
  clear ht hp
  have cS' := fun w' => Tx.Answering_spec h d p s hi w'
  have cI' := fun (w' : World) hT => Tx.Answering_impl h d p s hi w' hT
  generalize Tx.answerB h d p s = y at cS' cI'
  generalize Tx.answerV h d p s = q at cS' cI'
  have hyy : (y != y) = false := by simp
  obtain ⟨h1, d1, p1, ⟨⟨xu, xs, xh, xa⟩, xn, xt, xp⟩⟩ := q
  have cS : Hid (∀ w' : World, Calls Tryd.prog 11 #[.int .i64 h, .int .i64 d, .int .i64 p, .int .i64 s] w' fun e w'' => e = .returned (.tuple #[.agg #[.int .i64 h1, .int .i64 d1, .int .i64 p1, .int .i64 xu, .int .i64 xs, .int .i64 xh, .int .i64 xa, .int .i64 xn, .string xt, .bool xp], .bool y]) ∧ Below w'.heap.size w' w'') := fun w' => cS' w'
  have cI : Hid (∀ w' : World, Tx.Tab w' → Calls Tryd.prog 8 #[.int .i64 h, .int .i64 d, .int .i64 p, .int .i64 s] w' fun e w'' => e = .returned (.tuple #[.agg #[.int .i64 h1, .int .i64 d1, .int .i64 p1, .int .i64 xu, .int .i64 xs, .int .i64 xh, .int .i64 xa, .int .i64 xn, .string xt, .bool xp], .bool y]) ∧ Below w'.heap.size w' w'') := fun w' hT => cI' w' hT
  have cE : Hid (∀ w' : World, Calls Tryd.prog 15 #[.agg #[.int .i64 h1, .int .i64 d1, .int .i64 p1, .int .i64 xu, .int .i64 xs, .int .i64 xh, .int .i64 xa, .int .i64 xn, .string xt, .bool xp], .agg #[.int .i64 h1, .int .i64 d1, .int .i64 p1, .int .i64 xu, .int .i64 xs, .int .i64 xh, .int .i64 xa, .int .i64 xn, .string xt, .bool xp]] w' fun e w'' => e = .returned (.bool true) ∧ Below w'.heap.size w' w'') := fun w' => by exact Tx.eqAnswer_same ⟨h1, d1, p1, ⟨⟨xu, xs, xh, xa⟩, xn, xt, xp⟩⟩ w'
  clear cS' cI' hi
  have K0 := Lib.hid (Below.refl w.heap.size w)
  go_enter Tryd.func4, Tryd.ntmps4
  go_wp2_with fail
  refine (cS.out _).mono ?_
  rintro e w1 ⟨rfl, hb⟩
  have K1 := Lib.hid (K0.out.trans (hb.mono K0.out.size))
  clear hb K0
  obtain ⟨V2, hV2⟩ : ∃ V, w1.alloc (.cells #[.int .i64 0, .int .i64 0, .int .i64 0, .int .i64 0, .int .i64 0, .int .i64 0, .int .i64 0, .int .i64 0, .string ⟨#[]⟩, .bool false] 31) = V := ⟨_, rfl⟩
  have hb : Below w1.heap.size w1 V2 := by rw [← hV2]; exact (Below.refl _ w1).alloc (Nat.le_refl _) _
  have K2 := Lib.hid (K1.out.trans (hb.mono K1.out.size))
  have GA2 : Hid (V2.heap[w1.heap.size]? = some (.cells #[.int .i64 0, .int .i64 0, .int .i64 0, .int .i64 0, .int .i64 0, .int .i64 0, .int .i64 0, .int .i64 0, .string ⟨#[]⟩, .bool false] 31)) := by rw [← hV2]; exact Tx.heap1 w1 _
  have lbV2 : w.heap.size ≤ w1.heap.size := K1.out.size
  clear hb K1
  have GA3 : Hid ((V2.setRow w1.heap.size #[.int .i64 h1, .int .i64 d1, .int .i64 p1, .int .i64 xu, .int .i64 xs, .int .i64 xh, .int .i64 xa, .int .i64 xn, .string xt, .bool xp]).heap[w1.heap.size]? = some (.cells #[.int .i64 h1, .int .i64 d1, .int .i64 p1, .int .i64 xu, .int .i64 xs, .int .i64 xh, .int .i64 xa, .int .i64 xn, .string xt, .bool xp] 31)) := setRow_heap _ _ _ _ _ _ GA2.out
  have K3 : Hid (Below w.heap.size w (V2.setRow w1.heap.size #[.int .i64 h1, .int .i64 d1, .int .i64 p1, .int .i64 xu, .int .i64 xs, .int .i64 xh, .int .i64 xa, .int .i64 xn, .string xt, .bool xp])) := below_setRow K2.out (by omega) _
  go_wp2_with (refine wpList_store_row rfl 31 _ _ rfl (w1.heap.size) #[.int .i64 h1, .int .i64 d1, .int .i64 p1, .int .i64 xu, .int .i64 xs, .int .i64 xh, .int .i64 xa, .int .i64 xn, .string xt, .bool xp] rfl rfl 31 _ GA2.out (by kernel_rfl) rfl (by simp [Value.oneCell']) ?_)
  clear hV2 GA2 K2
  generalize V2.setRow w1.heap.size #[.int .i64 h1, .int .i64 d1, .int .i64 p1, .int .i64 xu, .int .i64 xs, .int .i64 xh, .int .i64 xa, .int .i64 xn, .string xt, .bool xp] = S3 at GA3 K3 ⊢
  refine (cI.out _ (HTB.out.on K3.out)).mono ?_
  rintro e w4 ⟨rfl, hb⟩
  have GA4 := Lib.hid (Tx.blk_on hb GA3.out)
  have K4 := Lib.hid (K3.out.trans (hb.mono K3.out.size))
  clear hb GA3 K3
  obtain ⟨V5, hV5⟩ : ∃ V, w4.alloc (.cells #[.int .i64 0, .int .i64 0, .int .i64 0, .int .i64 0, .int .i64 0, .int .i64 0, .int .i64 0, .int .i64 0, .string ⟨#[]⟩, .bool false] 31) = V := ⟨_, rfl⟩
  have ltV5GA : w1.heap.size < w4.heap.size := Tx.blk_in GA4.out
  have GA5 : Hid (V5.heap[w1.heap.size]? = some (.cells #[.int .i64 h1, .int .i64 d1, .int .i64 p1, .int .i64 xu, .int .i64 xs, .int .i64 xh, .int .i64 xa, .int .i64 xn, .string xt, .bool xp] 31)) := by rw [← hV5]; exact Tx.alloc_blk GA4.out
  have hb : Below w4.heap.size w4 V5 := by rw [← hV5]; exact (Below.refl _ w4).alloc (Nat.le_refl _) _
  have K5 := Lib.hid (K4.out.trans (hb.mono K4.out.size))
  have GB5 : Hid (V5.heap[w4.heap.size]? = some (.cells #[.int .i64 0, .int .i64 0, .int .i64 0, .int .i64 0, .int .i64 0, .int .i64 0, .int .i64 0, .int .i64 0, .string ⟨#[]⟩, .bool false] 31)) := by rw [← hV5]; exact Tx.heap1 w4 _
  have lbV5 : w.heap.size ≤ w4.heap.size := K4.out.size
  clear hb GA4 K4
  have GA6 : Hid ((V5.setRow w4.heap.size #[.int .i64 h1, .int .i64 d1, .int .i64 p1, .int .i64 xu, .int .i64 xs, .int .i64 xh, .int .i64 xa, .int .i64 xn, .string xt, .bool xp]).heap[w1.heap.size]? = some (.cells #[.int .i64 h1, .int .i64 d1, .int .i64 p1, .int .i64 xu, .int .i64 xs, .int .i64 xh, .int .i64 xa, .int .i64 xn, .string xt, .bool xp] 31)) := (setRow_other _ _ _ _ (by omega)).trans GA5.out
  have GB6 : Hid ((V5.setRow w4.heap.size #[.int .i64 h1, .int .i64 d1, .int .i64 p1, .int .i64 xu, .int .i64 xs, .int .i64 xh, .int .i64 xa, .int .i64 xn, .string xt, .bool xp]).heap[w4.heap.size]? = some (.cells #[.int .i64 h1, .int .i64 d1, .int .i64 p1, .int .i64 xu, .int .i64 xs, .int .i64 xh, .int .i64 xa, .int .i64 xn, .string xt, .bool xp] 31)) := setRow_heap _ _ _ _ _ _ GB5.out
  have K6 : Hid (Below w.heap.size w (V5.setRow w4.heap.size #[.int .i64 h1, .int .i64 d1, .int .i64 p1, .int .i64 xu, .int .i64 xs, .int .i64 xh, .int .i64 xa, .int .i64 xn, .string xt, .bool xp])) := below_setRow K5.out (by omega) _
  go_wp2_with (first | (refine wpList_store_row rfl 31 _ _ rfl (w4.heap.size) #[.int .i64 h1, .int .i64 d1, .int .i64 p1, .int .i64 xu, .int .i64 xs, .int .i64 xh, .int .i64 xa, .int .i64 xn, .string xt, .bool xp] rfl rfl 31 _ GB5.out (by kernel_rfl) rfl (by simp [Value.oneCell']) ?_) | (refine wpList_load_row rfl 31 _ rfl (w4.heap.size) rfl 31 _ (0, 0) _ GB6.out Tryd.underlying31 rfl (by kernel_rfl) ?_) | (refine wpList_load_row rfl 31 _ rfl (w1.heap.size) rfl 31 _ (0, 0) _ GA6.out Tryd.underlying31 rfl (by kernel_rfl) ?_))
  clear hV5 GA5 GB5 K5
  generalize V5.setRow w4.heap.size #[.int .i64 h1, .int .i64 d1, .int .i64 p1, .int .i64 xu, .int .i64 xs, .int .i64 xh, .int .i64 xa, .int .i64 xn, .string xt, .bool xp] = S6 at GA6 GB6 K6 ⊢
  refine (cE.out _).mono ?_
  rintro e w7 ⟨rfl, hb⟩
  have GA7 := Lib.hid (Tx.blk_on hb GA6.out)
  have GB7 := Lib.hid (Tx.blk_on hb GB6.out)
  have K7 := Lib.hid (K6.out.trans (hb.mono K6.out.size))
  clear hb GA6 GB6 K6
  go_wp2
  go_ret
  exact ⟨rfl, K7.out⟩

theorem door_met (os : Os) (args : Array Value) : laidMetH Tryd.prog Rows.fnExactAnsweringRow.laid ((Tx.doorWorld os).forCall (fun _ _ => 0) ⟨#[], args, []⟩).memory := by
  rw [MakeChecks.laidMetH_plain _ _ _ (by kernel_rfl)]
  exact laidMet_of_run' 8 (by kernel_rfl) (by kernel_rfl)
theorem tab {W : World} (h : laidMetH Tryd.prog Rows.fnExactAnsweringRow.laid W) : Tx.Tab W := by
  rw [MakeChecks.laidMetH_plain _ _ _ (by kernel_rfl)] at h
  exact Tx.tab_of (laidMet.tail (laidMet.tail h))

theorem own : ownKnob Tryd.prog.godebug = none := by kernel_rfl
theorem laidOut : laidOutB Tryd.prog = true := by kernel_rfl

set_option maxRecDepth 100000 in
theorem lifted (os : Os) (started : os.Started) (H : Type) (enc : TypeId × Value → H) :
    ReturnsInHanded {} Tryd.checked os 4 .any (fun w args => (Rows.fnExactAnsweringSpec.pre enc Tryd.prog Tryd.f4 [] false w args ∧ laidMetH Tryd.prog Rows.fnExactAnsweringRow.laid w) ∧ sizedMet enc Tryd.prog Tryd.f4 (OpenSpec.ofChange Rows.fnExactAnsweringSpec) false w args)
      (Rows.fnExactAnsweringSpec.post enc Tryd.prog Tryd.f4 false true false false) := by
  refine returnsInHanded_of_change_and (C := Tryd.checked) (X := fun w _ => laidMetH Tryd.prog Rows.fnExactAnsweringRow.laid w) (fun _ _ _ hh h => h.of_heap hh) own started (by kernel_rfl) Tryd.func4
    (ChangeSpec.witness_shaped (enc := enc) (C := Tryd.checked) (os := os) (X := fun w _ => laidMetH Tryd.prog Rows.fnExactAnsweringRow.laid w) false (Tx.doorWorld os) #[.int .i64 0, .int .i64 0, .int .i64 0, .int .i64 0] 8 rfl (Tx.door_shaped os _) (by kernel_rfl) (by kernel_rfl) (by kernel_rfl) (door_met os _)) ?_
  intro W base args ds gs before hval0 hW _ _ hL hsh
  have hval : ∀ (j : Nat) t v, Tryd.f4.params[j]? = some t → args[j]? = some v → Value.okWide Tryd.prog W .any base t v := hval0
  have hW' := hW
  obtain ⟨p, q, hA0, hV, rfl, hfz, hnd⟩ := hW
  have hA : DataW.TrodAll enc Tryd.prog W 0 (fun _ => true) true Tryd.f4.params.toList args.toList ds p := hA0
  rw [Tryd.params4] at hA hval
  obtain ⟨v0, vs0, d0, ds0, p0, q0, hargs, rfl, rfl, h0, r0⟩ := trodAll_cons hA
  obtain ⟨v1, vs1, d1, ds1, p1, q1, rfl, rfl, rfl, h1, r1⟩ := trodAll_cons r0
  obtain ⟨v2, vs2, d2, ds2, p2, q2, rfl, rfl, rfl, h2, r2⟩ := trodAll_cons r1
  obtain ⟨v3, vs3, d3, ds3, p3, q3, rfl, rfl, rfl, h3, r3⟩ := trodAll_cons r2
  obtain ⟨rfl, rfl, rfl⟩ := trodAll_nil r3
  obtain rfl : args = #[v0, v1, v2, v3] := by cases args; simp_all
  obtain ⟨rfl, rfl⟩ := trodVars_none hV
  have k0 := h0
  have lt0 : ∀ x ∈ p0, x.block < W.heap.size := by obtain ⟨m, hm⟩ := k0; exact DataW.trod_lt m _ _ _ hm
  have k1 := h1
  have lt1 : ∀ x ∈ p1, x.block < W.heap.size := by obtain ⟨m, hm⟩ := k1; exact DataW.trod_lt m _ _ _ hm
  have k2 := h2
  have lt2 : ∀ x ∈ p2, x.block < W.heap.size := by obtain ⟨m, hm⟩ := k2; exact DataW.trod_lt m _ _ _ hm
  have k3 := h3
  have lt3 : ∀ x ∈ p3, x.block < W.heap.size := by obtain ⟨m, hm⟩ := k3; exact DataW.trod_lt m _ _ _ hm
  obtain ⟨a0, rfl, rfl, rfl, w0⟩ := open_int Tryd.underlying2 (hval 0 2 v0 rfl rfl) h0
  obtain ⟨a1, rfl, rfl, rfl, w1⟩ := open_int Tryd.underlying2 (hval 1 2 v1 rfl rfl) h1
  obtain ⟨a2, rfl, rfl, rfl, w2⟩ := open_int Tryd.underlying2 (hval 2 2 v2 rfl rfl) h2
  obtain ⟨a3, rfl, rfl, rfl, w3⟩ := open_int Tryd.underlying2 (hval 3 2 v3 rfl rfl) h3
  clear hA0 hval0
  refine (walk W a0 w0 a1 w1 a2 w2 a3 w3 (tab hL)).mono fun e W' ⟨he, bel⟩ => ?_
  subst he
  exact ⟨_, rfl, _, _, _, [], _, [], hW', trodAll_mk1 (shut_bool Tryd.underlying4 _), (trodAll_cons_mk (Below.trod laidOut (by kernel_rfl) (of_decide_eq_true (by kernel_rfl)) k0 bel lt0) (trodAll_cons_mk (Below.trod laidOut (by kernel_rfl) (of_decide_eq_true (by kernel_rfl)) k1 bel lt1) (trodAll_cons_mk (Below.trod laidOut (by kernel_rfl) (of_decide_eq_true (by kernel_rfl)) k2 bel lt2) (trodAll_cons_mk (Below.trod laidOut (by kernel_rfl) (of_decide_eq_true (by kernel_rfl)) k3 bel lt3) trodAll_mk0)))), rfl, bel.frame _, fun h => by cases h⟩

theorem over : Rows.fnExactAnsweringRow.holds Tryd.pinned (OpenSpec.ofChange Rows.fnExactAnsweringSpec) :=
  OpenClaim.holds_of_wide 4 Tryd.f4 rfl rfl rfl rfl rfl rfl rfl ⟨rfl, rfl, rfl, rfl, rfl⟩ rfl rfl rfl rfl rfl (by kernel_rfl) Tryd.func4 (by kernel_rfl)
    (of_decide_eq_true (by kernel_rfl)) (by unfold Func.isWrapper; first | (rw [if_pos (by decide +kernel)]; kernel_rfl) | (rw [if_neg (by decide +kernel)]; exact ⟨rfl, rfl⟩))
    (fun os started H enc _ => lifted os started H enc)

end Go.Proofs.YtdnkpdfhnpmhbaaDoor.fnExactAnswering

namespace Go.Proofs.YtdnkpdfhnpmhbaaDoor
theorem fnExactAnswering_proved : Rows.FnExactAnsweringCardSaid :=
  Claim7.holds_tied_plain_at .later [] Rows.fnExactAnsweringCard.laidKinds true Rows.fnExactAnsweringCard.stood.harness true
    fnExactAnswering.over (fun _ h => by cases h) (by kernel_rfl) (fun _ h => by cases h) fnExactAnswering_row_tie rfl ⟨rfl, rfl⟩ (by kernel_rfl) rfl
    (fun f fn hf hfn => by
      obtain rfl : f = 4 := Option.some.inj ((show Tryd.prog.funcNamed Rows.fnExactAnsweringRow.func = some 4 by kernel_rfl).symm.trans hf) |>.symm
      obtain rfl : fn = Tryd.f4 := (Option.some.inj (Tryd.func4.symm.trans hfn)).symm
      exact ⟨by kernel_rfl, fun j t ht => by
        rw [Tryd.params4] at ht
        have hm : t ∈ [2, 2, 2, 2] := by simpa using Array.mem_of_getElem? ht
        have hall : ([2, 2, 2, 2].all fun u => !Tryd.prog.wantsStandIn u) = true := by kernel_rfl
        exact (show Tryd.prog.wantsStandIn t = false by simpa using List.all_eq_true.1 hall t hm)⟩)
    (by kernel_rfl)
#print axioms fnExactAnswering_proved
end Go.Proofs.YtdnkpdfhnpmhbaaDoor

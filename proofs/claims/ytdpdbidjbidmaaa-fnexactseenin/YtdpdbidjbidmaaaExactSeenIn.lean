/-
  The law FnExactSeenIn returns true at every Memory and number, and they read behind the call as they read before: SeenIn of the program and of the model answer alike, in memory of the call's own. No condition.
-/
import Derived.Test.YtdpdbidjbidmaaaRows
import Derived.WalkKit
import Derived.ProofKit
import Derived.OpenShut
import Derived.ShutString
import Derived.ChangeOld
import Derived.Below
import Derived.SliceStrings
import Derived.Lib.SmallJoins
import Derived.Test.YtdpdbidjbidmaaaOpen8
import Derived.Test.YtdpdbidjbidmaaaImpl8b
namespace Go.Proofs.Ytdpdbidjbidmaaa.fnExactSeenIn
open Go.ChangeShapes Go.WideShapes Go.ChangeAt Go.RowKit
open Go.ChangeMaps (open_string shut_string)
set_option linter.unusedVariables false

set_option maxRecDepth 100000 in
set_option maxHeartbeats 16000000 in
theorem walk (w : World) (A : Option Addr) (n cap : Nat) (z : List Int) (s : Int) (h : Tx.Nums w w.heap.size A n z) (hl : n ≤ maxLen) (hi : Tx.AllI64 z) (x : Int) (hx : (Lit.int .i64 x).wf = true) :
    Calls Try.prog 8 #[.agg #[.slice A n cap, .int .i64 s], .int .i64 x] w fun e w' => e = .returned (.bool true) ∧ Below w.heap.size w w' := by
  have hl' : n ≤ 9223372036854775807 := by have e : (2 : Nat) ^ 63 - 1 = 9223372036854775807 := rfl; rw [← e]; exact hl
  clear hl
  obtain ⟨W0, hW0⟩ : ∃ W, w.alloc (.cells #[.slice A n cap, .int .i64 s] 40) = W := ⟨_, rfl⟩
  have K : Hid (Below w.heap.size w W0) := by rw [← hW0]; exact (Below.refl _ w).alloc (Nat.le_refl _) _
  have AM : Hid (W0.heap[w.heap.size]? = some (.cells #[.slice A n cap, .int .i64 s] 40)) := by rw [← hW0]; exact Tx.heap1 w _
  have AR := Lib.hid (h.below K.out)
  have HI := Lib.hid hi
  clear h hi
  have cZ := Tx.szMemory_any A n cap s W0 hl'
  by_cases hbig : 1048576 < n
  · rw [if_pos hbig] at cZ
    obtain ⟨⟨a0, a1⟩, _⟩ := Tx.blk2 AM.out
    go_enter Try.func8, Try.ntmps8
    go_wp2_with fail
    clear hW0 a0 a1
    refine cZ.mono ?_
    rintro e w1 ⟨rfl, b⟩
    go_wp2
    go_ret
    exact ⟨rfl, K.out.trans (b.mono K.out.size)⟩
  rw [if_neg hbig] at cZ
  have hn : n ≤ 1048576 := by omega
  have hz0 : ¬ (1048576 - (n : Int)) < 0 := by omega
  clear hbig
  generalize (1048576 - (n : Int)) = lf at cZ hz0
  have cS : Hid (∀ (w' : World) (g : Nat), Tx.Nums w' w'.heap.size (some ⟨g, 0, none⟩) n z → Calls Try.prog 18 #[.agg #[.slice (some ⟨g, 0, none⟩) n n, .int .i64 s], .int .i64 x] w' fun e w'' => e = .returned (.bool (decide (x ∈ z))) ∧ Below w'.heap.size w' w'') := fun w' g hN => Tx.SeenIn_spec _ n n z s x w' hN hn
  have cI : Hid (∀ (w' : World) (g : Nat), Tx.Nums w' w'.heap.size (some ⟨g, 0, none⟩) n z → Calls Try.prog 17 #[.agg #[.slice (some ⟨g, 0, none⟩) n n, .int .i64 s], .int .i64 x] w' fun e w'' => e = .returned (.bool (decide (x ∈ z))) ∧ Below w'.heap.size w' w'') := fun w' g hN => Tx.SeenIn_impl _ n n z s x w' hN HI.out hx hn
  generalize (decide (x ∈ z)) = y at cS cI
  have hyy : (y != y) = false := by simp
  clear HI hx
  obtain ⟨⟨a0, a1⟩, _⟩ := Tx.blk2 AM.out
  go_enter Try.func8, Try.ntmps8
  go_wp2_with fail
  clear hW0 a0 a1
  refine cZ.mono ?_
  rintro e w1 ⟨rfl, b⟩
  have t1 := b.size
  replace AM := Lib.hid (Tx.blk_on b AM.out)
  replace AR := Lib.hid (AR.out.below (b.mono K.out.size))
  replace K := Lib.hid (K.out.trans (b.mono K.out.size))
  clear b
  clear cZ
  obtain ⟨⟨a0, a1⟩, _⟩ := Tx.blk2 AM.out
  go_wp2_with fail
  clear a0 a1
  refine (Tx.toMemory_any A n cap z s _ (AR.out.mono K.out.size) hn).mono ?_
  rintro e w2 ⟨gm, rfl, m, b⟩
  have M0 := Lib.hid m
  have hlM : ∀ k, Tx.blkN (some ⟨gm, 0, none⟩) = some k → w1.heap.size ≤ k ∧ k < w2.heap.size := fun k e => m.lt e
  clear m
  have t2 := b.size
  replace AM := Lib.hid (Tx.blk_on b AM.out)
  replace AR := Lib.hid (AR.out.below (b.mono K.out.size))
  replace K := Lib.hid (K.out.trans (b.mono K.out.size))
  clear b
  have M := M0
  clear M0
  go_wp2_with fail
  refine (cS.out _ _ M.out.nums).mono ?_
  rintro e w3 ⟨rfl, b⟩
  have t3 := b.size
  replace AM := Lib.hid (Tx.blk_on b AM.out)
  replace AR := Lib.hid (AR.out.below (b.mono K.out.size))
  replace K := Lib.hid (K.out.trans (b.mono K.out.size))
  replace M := Lib.hid (M.out.on b)
  clear b
  clear M hlM cS
  obtain ⟨⟨a0, a1⟩, _⟩ := Tx.blk2 AM.out
  go_wp2_with fail
  clear a0 a1
  refine (Tx.toMemory_any A n cap z s _ (AR.out.mono K.out.size) hn).mono ?_
  rintro e w4 ⟨gx, rfl, m, b⟩
  have L0 := Lib.hid m
  have hlL : ∀ k, Tx.blkN (some ⟨gx, 0, none⟩) = some k → w3.heap.size ≤ k ∧ k < w4.heap.size := fun k e => m.lt e
  clear m
  have t4 := b.size
  replace AM := Lib.hid (Tx.blk_on b AM.out)
  replace AR := Lib.hid (AR.out.below (b.mono K.out.size))
  replace K := Lib.hid (K.out.trans (b.mono K.out.size))
  clear b
  have L := L0
  clear L0
  obtain ⟨W5, hW5⟩ : ∃ W, w4.alloc (.cells #[.slice (some ⟨gx, 0, none⟩) n n, .int .i64 s] 26) = W := ⟨_, rfl⟩
  have b : Below w4.heap.size w4 W5 := hW5 ▸ (Below.refl _ w4).alloc (Nat.le_refl _) _
  have GX0 : Hid (W5.heap[w4.heap.size]? = some (.cells #[.slice (some ⟨gx, 0, none⟩) n n, .int .i64 s] 26)) := by rw [← hW5]; exact Tx.heap1 w4 _
  have uW5 : w4.heap.size < W5.heap.size := by rw [← hW5]; simp
  have t5 := b.size
  replace AM := Lib.hid (Tx.blk_on b AM.out)
  replace AR := Lib.hid (AR.out.below (b.mono K.out.size))
  replace K := Lib.hid (K.out.trans (b.mono K.out.size))
  replace L := Lib.hid (L.out.on b)
  clear b
  have GX := GX0
  clear GX0
  obtain ⟨⟨c0, c1⟩, _⟩ := Tx.blk2 GX.out
  go_wp2_with fail
  clear c0 c1 hW5
  refine (cI.out _ _ L.out.nums).mono ?_
  rintro e w6 ⟨rfl, b⟩
  have t6 := b.size
  replace AM := Lib.hid (Tx.blk_on b AM.out)
  replace AR := Lib.hid (AR.out.below (b.mono K.out.size))
  replace K := Lib.hid (K.out.trans (b.mono K.out.size))
  replace L := Lib.hid (L.out.on b)
  replace GX := Lib.hid (Tx.blk_on b GX.out)
  clear b
  go_wp2
  refine Tx.wp_region_own (W := w6) [] (fun _ => True) Tx.stays_true trivial [0, 0, 1, 1, 0] (by kernel_rfl) (by kernel_rfl) (by kernel_rfl) ?_
  have fA : ∀ q : Tx.In (Tx.plainEnv w6 []), _ := fun q => (Tx.blk2 (q.block AM.out (by simp))).1
  have fX : ∀ q : Tx.In (Tx.plainEnv w6 []), _ := fun q => (Tx.blk2 (q.block GX.out (by simp))).1
  refine Tx.wpO_quiet 2 rfl (by kernel_rfl) ?_
  simp only [List.take, List.drop]
  repeat (go_big_quiet_step (fail))
  refine wpQuiet_nil ?_
  refine Tx.wpO_callx (f := 26) (args := #[.agg #[.slice A n cap, .int .i64 s]]) (α := Nat) (fun g => .agg #[.slice (some ⟨g, 0, none⟩) n n, .int .i64 s]) (fun g => [g]) (fun g w' => Tx.OwnN w' w6.heap.size z (some ⟨g, 0, none⟩) n n) rfl (fun w' => by simp [go_sem]) (fun g w1 w2 hw h b => h.on b) (fun G => ?_) (fun w' hw hF => ?_) (fun gy hgy => ?_)
  · obtain ⟨g, hg, hn⟩ := Tx.fresh_above w6.heap.size G
    exact ⟨g, fun k hk => by simp at hk; subst hk; exact ⟨hg, hn⟩⟩
  · have kb := Tx.kept_below hw
    exact (Tx.toMemory_any A n cap z s w' ((AR.out.below (kb.mono K.out.size)).mono (Nat.le_trans K.out.size kb.size)) hn).mono fun e w'' ⟨g, he, m, b1⟩ => ⟨g, he, m.mono kb.size, b1, fun k hk => by simp at hk; subst hk; exact m.lt rfl⟩
  simp only [Act.put, List.setIfInBounds_toArray, List.set_cons_succ, List.set_cons_zero]
  refine Tx.wpO_call (f := 27) (args := #[.agg #[.slice (some ⟨gx, 0, none⟩) n n, .int .i64 s], .agg #[.slice (some ⟨gy, 0, none⟩) n n, .int .i64 s]]) (.bool true) rfl (fun w' => by simp [go_sem]) (fun w' hw hF => Tx.eqMemory_same _ _ n n n z s w' (L.out.on (Tx.kept_below hw)).nums hF.2.nums hn) ?_
  simp only [Act.put, List.setIfInBounds_toArray, List.set_cons_succ, List.set_cons_zero]
  refine Tx.wpO_quiet 1 rfl (by kernel_rfl) ?_
  simp only [List.take, List.drop]
  repeat (go_big_quiet_step (fail))
  refine wpQuiet_nil ?_
  refine Tx.wpO_nil ?_
  rintro w7 b' _
  have b := Tx.kept_below b'
  clear b' fA fX hgy
  have t7 := b.size
  replace AM := Lib.hid (Tx.blk_on b AM.out)
  replace AR := Lib.hid (AR.out.below (b.mono K.out.size))
  replace K := Lib.hid (K.out.trans (b.mono K.out.size))
  replace L := Lib.hid (L.out.on b)
  replace GX := Lib.hid (Tx.blk_on b GX.out)
  clear b
  go_wp2
  go_ret
  exact ⟨rfl, K.out⟩

theorem own : ownKnob Try.prog.godebug = none := by kernel_rfl
theorem laidOut : laidOutB Try.prog = true := by kernel_rfl

set_option maxRecDepth 100000 in
theorem lifted (os : Os) (started : os.Started) (H : Type) (enc : TypeId × Value → H) :
    ReturnsInHanded {} Try.checked os 8 .any (Rows.fnExactSeenInSpec.pre6 enc Try.prog Try.f8 Rows.fnExactSeenInRow.domain false) (Rows.fnExactSeenInSpec.post enc Try.prog Try.f8 false true false false) := by
  refine returnsInHanded_of_change (C := Try.checked) own started (by kernel_rfl) Try.func8
    (ChangeSpec.witness6 (enc := enc) (C := Try.checked) false ⟨#[], #[.agg #[.slice none 0 0, .int .i64 0], .int .i64 0], []⟩ 8 (by kernel_rfl) (by kernel_rfl) (by kernel_rfl) (by kernel_rfl)) ?_
  intro W base args ds gs before hval0 hW hcnd _
  have hval : ∀ (j : Nat) t v, Try.f8.params[j]? = some t → args[j]? = some v → Value.okWide Try.prog W .any base t v := hval0
  have hW' := hW
  obtain ⟨p, q, hA0, hV, rfl, hfz, hnd⟩ := hW
  have hA : DataW.TrodAll enc Try.prog W 0 (fun _ => true) true Try.f8.params.toList args.toList ds p := hA0
  rw [Try.params8] at hA hval
  obtain ⟨v0, vs0, d0, ds0, p0, q0, hargs, rfl, rfl, h0, r0⟩ := trodAll_cons hA
  obtain ⟨v1, vs1, d1, ds1, p1, q1, rfl, rfl, rfl, h1, r1⟩ := trodAll_cons r0
  obtain ⟨rfl, rfl, rfl⟩ := trodAll_nil r1
  obtain rfl : args = #[v0, v1] := by cases args; simp_all
  obtain ⟨rfl, rfl⟩ := trodVars_none hV
  have k0 := h0
  have lt0 : ∀ x ∈ p0, x.block < W.heap.size := by obtain ⟨m, hm⟩ := k0; exact DataW.trod_lt m _ _ _ hm
  have k1 := h1
  have lt1 : ∀ x ∈ p1, x.block < W.heap.size := by obtain ⟨m, hm⟩ := k1; exact DataW.trod_lt m _ _ _ hm
  obtain ⟨A0, n0, cp0, z0, s0, rfl, w0⟩ := Tx.open_mem (hval 0 40 v0 rfl rfl) h0
  obtain ⟨a1, rfl, rfl, rfl, w1⟩ := open_int Try.underlying2 (hval 1 2 v1 rfl rfl) h1
  clear hA0 hval0
  refine (walk W A0 n0 cp0 z0 s0 w0.1 w0.2.1 w0.2.2 a1 w1).mono fun e W' ⟨he, bel⟩ => ?_
  subst he
  exact ⟨_, rfl, _, _, _, [], _, [], hW', trodAll_mk1 (shut_bool Try.underlying4 _), (trodAll_cons_mk (Below.trod laidOut (by kernel_rfl) (of_decide_eq_true (by kernel_rfl)) k0 bel lt0) (trodAll_cons_mk (Below.trod laidOut (by kernel_rfl) (of_decide_eq_true (by kernel_rfl)) k1 bel lt1) trodAll_mk0)), rfl, bel.frame _, fun h => by cases h⟩

theorem over : Rows.fnExactSeenInRow.holds Try.pinned (OpenSpec.ofChange Rows.fnExactSeenInSpec) :=
  OpenClaim.holds_of_wide 8 Try.f8 rfl rfl rfl rfl rfl rfl rfl ⟨rfl, rfl, rfl, rfl, rfl⟩ rfl rfl rfl rfl rfl (by kernel_rfl) Try.func8 (by kernel_rfl)
    (of_decide_eq_true (by kernel_rfl)) (by unfold Func.isWrapper; first | (rw [if_pos (by decide +kernel)]; kernel_rfl) | (rw [if_neg (by decide +kernel)]; exact ⟨rfl, rfl⟩))
    (fun os started H enc _ => lifted os started H enc)

end Go.Proofs.Ytdpdbidjbidmaaa.fnExactSeenIn

namespace Go.Proofs.Ytdpdbidjbidmaaa
theorem fnExactSeenIn_proved : Rows.FnExactSeenInSaid := fnExactSeenIn.over
#print axioms fnExactSeenIn_proved
end Go.Proofs.Ytdpdbidjbidmaaa

/-
  The law FnExactInnOk returns true at every inn, and they read behind the call as they read before: InnOk of the program and of the model answer alike. No condition.
-/
import Derived.Test.YtioogmeghmeelaaRows
import Derived.WalkKit
import Derived.ProofKit
import Derived.OpenShut
import Derived.ShutString
import Derived.ChangeOld
import Derived.Below
import Derived.SliceStrings
import Derived.Lib.SmallJoins
import Derived.Test.YtioogmeghmeelaaOpen15
import Derived.Test.YtioogmeghmeelaaInn5
import Derived.Test.YtioogmeghmeelaaInn11
import Derived.Test.YtioogmeghmeelaaImpl15a
namespace Go.Proofs.Ytioogmeghmeelaa.fnExactInnOk
open Go.ChangeShapes Go.WideShapes Go.ChangeAt Go.RowKit
open Go.ChangeMaps (open_string shut_string)
set_option linter.unusedVariables false

set_option maxRecDepth 100000 in
set_option maxHeartbeats 64000000 in
theorem walk (w : World) (M : Option Addr) (nm cm : Nat) (zs : List Int) (s : Int) (A : Option Addr) (n cap : Nat) (ss : List Tx.SeatL) (h : Tx.InnO w w.heap.size M nm A n zs ss) (hlm : nm ≤ maxLen) (hzi : Tx.AllI64 zs) (hln : n ≤ maxLen) (hlq : ∀ q ∈ ss, q.l.length ≤ maxLen ∧ ∀ t ∈ q.l, t.t.size ≤ maxLen) :
    Calls Try.prog 3 #[.agg #[.slice M nm cm, .int .i64 s, .slice A n cap]] w fun e w' => e = .returned (.bool true) ∧ Below w.heap.size w w' := by
  have e63 : maxLen = 9223372036854775807 := rfl
  rw [e63] at hlm hln
  have hlq' : ∀ q ∈ ss, q.l.length ≤ 9223372036854775807 ∧ ∀ t ∈ q.l, t.t.size ≤ 9223372036854775807 := fun q hq => by
    have h9 := hlq q hq
    rw [e63] at h9
    exact h9
  have E := Lib.hid h
  have HI64 := Lib.hid hzi
  have hsl := h.seats.len
  clear h hzi hlq e63
  obtain ⟨W0, hW0⟩ : ∃ W, w.alloc (.cells #[.slice M nm cm, .int .i64 s, .slice A n cap] 27) = W := ⟨_, rfl⟩
  have K0 : Hid (Below w.heap.size w W0) := by rw [← hW0]; exact (Below.refl _ w).alloc (Nat.le_refl _) _
  have Q0 : Hid (W0.heap[w.heap.size]? = some (.cells #[.slice M nm cm, .int .i64 s, .slice A n cap] 27)) := by rw [← hW0]; exact Tx.heap1 w _
  have zW0 : W0.heap.size = w.heap.size + 1 := by rw [← hW0]; simp
  go_enter Try.func3, Try.ntmps3
  go_wp2_with (refine wpList_load_row rfl 27 _ rfl (w.heap.size) rfl 27 _ (0, 0) _ Q0.out Try.underlying27 rfl (by kernel_rfl) ?_)
  clear hW0
  have cz := Tx.szInn_any M nm cm zs s A n cap ss W0 ((E.out.below K0.out).mono K0.out.size) hlm hln hlq'
  refine cz.mono ?_
  rintro e w1 ⟨Lf, rfl, hL1, hL2, hb⟩
  have hsz1 := hb.size
  have Q1 := Lib.hid (Tx.blk_on hb Q0.out)
  have K1 := Lib.hid (K0.out.trans (hb.mono K0.out.size))
  clear hb cz hlm hln hlq' Q0 K0
  by_cases hL : Lf < 0
  ·
    go_wp2
    go_ret
    exact ⟨rfl, K1.out⟩
  obtain ⟨hnm, hn, hl⟩ := hL2 (by omega)
  rw [hsl] at hn
  have HLL := Lib.hid hl
  clear hL2 hl
  have cT : Hid (∀ (w' : World), Tx.InnO w' w'.heap.size M nm A n zs ss → Calls Try.prog 6 #[.agg #[.slice M nm cm, .int .i64 s, .slice A n cap]] w' fun e w'' => ∃ z : Tx.InnT, e = .returned (.agg #[.slice z.MA nm z.mc, .int .i64 s, .slice z.A n z.c]) ∧ Tx.HeldI w'' w'.heap.size (z.inn nm n) zs ss ∧ Below w'.heap.size w' w'') := fun w' hE => (Tx.toInn_any M nm cm zs s A n cap ss w' hE hnm hn HLL.out).mono fun e w'' ⟨⟨a1, a2, a3, a4, a5, a6, a7⟩, he, e1, e2, m, b1⟩ => by
    obtain rfl : nm = a2 := e1.symm
    obtain rfl : n = a5 := e2.symm
    exact ⟨⟨a1, a3, a4, a6, a7⟩, he, m, b1⟩
  have cS : Hid (∀ (w' : World) (B : Nat) (z : Tx.InnT), Tx.HeldI w' B (z.inn nm n) zs ss → Calls Try.prog 5 #[.agg #[.slice z.MA nm z.mc, .int .i64 s, .slice z.A n z.c]] w' fun e w'' => e = .returned (.bool (Tx.innOkB zs s ss)) ∧ Below w'.heap.size w' w'') := fun w' B z hE => Tx.InnOk_spec _ nm _ zs s _ n _ ss w' hE.reads.mem hE.reads.seats hnm hn
  have cI : Hid (∀ (w' : World) (B : Nat) (z : Tx.InnT), Tx.HeldI w' B (z.inn nm n) zs ss → Calls Try.prog 7 #[.agg #[.slice z.MA nm z.mc, .int .i64 s, .slice z.A n z.c]] w' fun e w'' => e = .returned (.bool (Tx.innOkB zs s ss)) ∧ Below w'.heap.size w' w'') := fun w' B z hE => Tx.InnOk_impl _ nm _ zs s _ n _ ss w' hE.reads (Tx.nil_cap hE.mem) HI64.out hnm hn HLL.out
  generalize Tx.innOkB zs s ss = y at cS cI
  have hyy : (y != y) = false := by simp
  clear hsl
  go_wp2_with (refine wpList_load_row rfl 27 _ rfl (w.heap.size) rfl 27 _ (0, 0) _ Q1.out Try.underlying27 rfl (by kernel_rfl) ?_)
  refine (cT.out _ ((E.out.below K1.out).mono K1.out.size)).mono ?_
  rintro e w2 ⟨⟨aM, ac, aA, ak, ah⟩, rfl, hca, hb⟩
  have hlA : ∀ t, Tx.FootI (Tx.InnT.inn ⟨aM, ac, aA, ak, ah⟩ nm n) t → w1.heap.size ≤ t ∧ t < w2.heap.size := fun t e => hca.foot e
  have hsz2 := hb.size
  have Q2 := Lib.hid (Tx.blk_on hb Q1.out)
  have K2 := Lib.hid (K1.out.trans (hb.mono K1.out.size))
  clear hb Q1 K1
  have A2 := Lib.hid hca
  clear hca
  go_wp2_with fail
  refine (cS.out _ _ _ A2.out).mono ?_
  rintro e w3 ⟨rfl, hb⟩
  have hsz3 := hb.size
  have Q3 := Lib.hid (Tx.blk_on hb Q2.out)
  have A3 := Lib.hid (A2.out.on hb)
  have K3 := Lib.hid (K2.out.trans (hb.mono K2.out.size))
  clear hb Q2 K2 A2
  clear A3 hlA
  go_wp2_with (refine wpList_load_row rfl 27 _ rfl (w.heap.size) rfl 27 _ (0, 0) _ Q3.out Try.underlying27 rfl (by kernel_rfl) ?_)
  refine (cT.out _ ((E.out.below K3.out).mono K3.out.size)).mono ?_
  rintro e w4 ⟨⟨zM, zc, zA, zk, zh⟩, rfl, hcz, hb⟩
  have hlZ : ∀ t, Tx.FootI (Tx.InnT.inn ⟨zM, zc, zA, zk, zh⟩ nm n) t → w3.heap.size ≤ t ∧ t < w4.heap.size := fun t e => hcz.foot e
  have hsz4 := hb.size
  have Q4 := Lib.hid (Tx.blk_on hb Q3.out)
  have K4 := Lib.hid (K3.out.trans (hb.mono K3.out.size))
  clear hb Q3 K3
  have Z4 := Lib.hid hcz
  clear hcz
  obtain ⟨V5, hV5⟩ : ∃ V, w4.alloc (.cells #[.slice none 0 0, .int .i64 0, .slice none 0 0] 33) = V := ⟨_, rfl⟩
  have ltV5Q : w.heap.size < w4.heap.size := Tx.blk_in Q4.out
  have Q5 : Hid (V5.heap[w.heap.size]? = some (.cells #[.slice M nm cm, .int .i64 s, .slice A n cap] 27)) := by rw [← hV5]; exact Tx.alloc_blk Q4.out
  have hb : Below w4.heap.size w4 V5 := by rw [← hV5]; exact (Below.refl _ w4).alloc (Nat.le_refl _) _
  have Z5 := Lib.hid (Z4.out.on hb)
  have K5 := Lib.hid (K4.out.trans (hb.mono K4.out.size))
  have B5 : Hid (V5.heap[w4.heap.size]? = some (.cells #[.slice none 0 0, .int .i64 0, .slice none 0 0] 33)) := by rw [← hV5]; exact Tx.heap1 w4 _
  have lbV5 : w.heap.size ≤ w4.heap.size := K4.out.size
  clear hb Q4 K4 Z4
  have zaV5 : V5.heap.size = w4.heap.size + 1 := by rw [← hV5]; simp
  have Q6 : Hid ((V5.setRow w4.heap.size #[.slice zM nm zc, .int .i64 s, .slice zA n zk]).heap[w.heap.size]? = some (.cells #[.slice M nm cm, .int .i64 s, .slice A n cap] 27)) := (setRow_other _ _ _ _ (by omega)).trans Q5.out
  have B6 : Hid ((V5.setRow w4.heap.size #[.slice zM nm zc, .int .i64 s, .slice zA n zk]).heap[w4.heap.size]? = some (.cells #[.slice zM nm zc, .int .i64 s, .slice zA n zk] 33)) := setRow_heap _ _ _ _ _ _ B5.out
  have K6 : Hid (Below w.heap.size w (V5.setRow w4.heap.size #[.slice zM nm zc, .int .i64 s, .slice zA n zk])) := below_setRow K5.out (by omega) _
  have Z6 : Hid (Tx.HeldI (V5.setRow w4.heap.size #[.slice zM nm zc, .int .i64 s, .slice zA n zk]) w3.heap.size (Tx.InnT.inn ⟨zM, zc, zA, zk, zh⟩ nm n) zs ss) := Z5.out.heap (fun t e => setRow_other _ _ _ _ (by have := hlZ t e; omega)) (Nat.le_of_eq (size_setRow _ _ _).symm)
  clear Z5
  have zz6 := size_setRow V5 (w4.heap.size) #[.slice zM nm zc, .int .i64 s, .slice zA n zk]
  go_wp2_with (first | (refine wpList_store_row rfl 33 _ _ rfl (w4.heap.size) #[.slice zM nm zc, .int .i64 s, .slice zA n zk] rfl rfl 33 _ B5.out (by kernel_rfl) rfl (by simp [Value.oneCell']) ?_) | (refine wpList_load_row rfl 33 _ rfl (w4.heap.size) rfl 33 _ (0, 0) _ B6.out Try.underlying33 rfl (by kernel_rfl) ?_))
  clear hV5 Q5 B5 K5
  generalize V5.setRow w4.heap.size #[.slice zM nm zc, .int .i64 s, .slice zA n zk] = S6 at Q6 B6 Z6 K6 zz6 ⊢
  refine (cI.out _ _ _ Z6.out).mono ?_
  rintro e w7 ⟨rfl, hb⟩
  have hsz5 := hb.size
  have Q7 := Lib.hid (Tx.blk_on hb Q6.out)
  have B7 := Lib.hid (Tx.blk_on hb B6.out)
  have Z7 := Lib.hid (Z6.out.on hb)
  have K7 := Lib.hid (K6.out.trans (hb.mono K6.out.size))
  clear hb Q6 B6 K6 Z6
  go_wp2
  refine Tx.wp_region_own (W := w7) [] (fun _ => True) Tx.stays_true trivial [0, 0, 1, 1, 0] (by kernel_rfl) (by kernel_rfl) (by kernel_rfl) ?_
  have rB : Hid (∀ q : Tx.In (Tx.plainEnv w7 []), q.w.heap[w4.heap.size]? = some (.cells #[.slice zM nm zc, .int .i64 s, .slice zA n zk] 33)) := fun q => q.block B7.out (by simp)
  have rQ : Hid (∀ q : Tx.In (Tx.plainEnv w7 []), q.w.heap[w.heap.size]? = some (.cells #[.slice M nm cm, .int .i64 s, .slice A n cap] 27)) := fun q => q.block Q7.out (by simp)
  refine Tx.wpO_load_row rfl 33 _ rfl (w4.heap.size) rfl 33 _ (0, 0) _ rB.out Try.underlying33 rfl (by kernel_rfl) ?_
  simp only [Act.put, List.setIfInBounds_toArray, List.set_cons_succ, List.set_cons_zero]
  refine Tx.wpO_load_row rfl 27 _ rfl (w.heap.size) rfl 27 _ (0, 0) _ rQ.out Try.underlying27 rfl (by kernel_rfl) ?_
  simp only [Act.put, List.setIfInBounds_toArray, List.set_cons_succ, List.set_cons_zero]
  refine Tx.wpO_callx (f := 6) (args := #[.agg #[.slice M nm cm, .int .i64 s, .slice A n cap]]) (α := Tx.InnT) (fun z => .agg #[.slice z.MA nm z.mc, .int .i64 s, .slice z.A n z.c]) (fun z => z.own) (fun z w' => Tx.HeldI w' w7.heap.size (z.inn nm n) zs ss) rfl (fun w' => by simp [go_sem]) (fun z w1 w2 hw h b => h.on b) (fun G => ⟨.nil, fun k hk => by cases hk⟩) (fun w' hw hF => ?_) (fun y hgy => ?_)
  · have kb := Tx.kept_below hw
    have kk := kb.size
    exact (cT.out w' ((E.out.below (K7.out.trans (kb.mono K7.out.size))).mono (Nat.le_trans K7.out.size kb.size))).mono fun e w'' ⟨z, he, m, b1⟩ => ⟨z, he, m.mono kb.size, b1, fun k hk => m.foot (Tx.InnT.foot.1 hk)⟩
  obtain ⟨yM, yc, yA, yk, yh⟩ := y
  dsimp only
  simp only [Act.put, List.setIfInBounds_toArray, List.set_cons_succ, List.set_cons_zero]
  refine Tx.wpO_call (f := 8) (args := #[.agg #[.slice zM nm zc, .int .i64 s, .slice zA n zk], .agg #[.slice yM nm yc, .int .i64 s, .slice yA n yk]]) (.bool true) rfl (fun w' => by simp [go_sem]) (fun w' hC hF => Tx.eqInn_same _ _ nm _ _ zs s _ _ n _ _ ss w' (Z7.out.on (Tx.kept_below hC)).reads hF.2.reads hnm hn HLL.out) ?_
  simp only [Act.put, List.setIfInBounds_toArray, List.set_cons_succ, List.set_cons_zero]
  refine Tx.wpO_quiet 1 rfl (by kernel_rfl) ?_
  simp only [List.take, List.drop]
  repeat (go_big_quiet_step (fail))
  refine wpQuiet_nil ?_
  clear hgy
  refine Tx.wpO_nil ?_
  rintro w8 hb' _
  have hb := Tx.kept_below hb'
  have hsz6 := hb.size
  have Q8 := Lib.hid (Tx.blk_on hb Q7.out)
  have B8 := Lib.hid (Tx.blk_on hb B7.out)
  have Z8 := Lib.hid (Z7.out.on hb)
  have K8 := Lib.hid (K7.out.trans (hb.mono K7.out.size))
  clear rB rQ hb hb' Q7 B7 K7 Z7
  go_wp2
  go_ret
  exact ⟨rfl, K8.out⟩

theorem own : ownKnob Try.prog.godebug = none := by kernel_rfl
theorem laidOut : laidOutB Try.prog = true := by kernel_rfl

set_option maxRecDepth 100000 in
theorem lifted (os : Os) (started : os.Started) (H : Type) (enc : TypeId × Value → H) :
    ReturnsInHanded {} Try.checked os 3 .any (Rows.fnExactInnOkSpec.pre6 enc Try.prog Try.f3 Rows.fnExactInnOkRow.domain false) (Rows.fnExactInnOkSpec.post enc Try.prog Try.f3 false true false false) := by
  refine returnsInHanded_of_change (C := Try.checked) own started (by kernel_rfl) Try.func3
    (ChangeSpec.witness6 (enc := enc) (C := Try.checked) false ⟨#[], #[.agg #[.slice none 0 0, .int .i64 0, .slice none 0 0]], []⟩ 8 (by kernel_rfl) (by kernel_rfl) (by kernel_rfl) (by kernel_rfl)) ?_
  intro W base args ds gs before hval0 hW hcnd _
  have hval : ∀ (j : Nat) t v, Try.f3.params[j]? = some t → args[j]? = some v → Value.okWide Try.prog W .any base t v := hval0
  have hW' := hW
  obtain ⟨p, q, hA0, hV, rfl, hfz, hnd⟩ := hW
  have hA : DataW.TrodAll enc Try.prog W 0 (fun _ => true) true Try.f3.params.toList args.toList ds p := hA0
  rw [Try.params3] at hA hval
  obtain ⟨v0, vs0, d0, ds0, p0, q0, hargs, rfl, rfl, h0, r0⟩ := trodAll_cons hA
  obtain ⟨rfl, rfl, rfl⟩ := trodAll_nil r0
  obtain rfl : args = #[v0] := by cases args; simp_all
  obtain ⟨rfl, rfl⟩ := trodVars_none hV
  have k0 := h0
  have lt0 : ∀ x ∈ p0, x.block < W.heap.size := by obtain ⟨m, hm⟩ := k0; exact DataW.trod_lt m _ _ _ hm
  obtain ⟨M0, nm0, cm0, z0, s0, A0, n0, cp0, l0, rfl, w0⟩ := Tx.open_inn (hval 0 27 v0 rfl rfl) h0
  clear hA0 hval0
  refine (walk W M0 nm0 cm0 z0 s0 A0 n0 cp0 l0 w0.1 w0.2.1 w0.2.2.1 w0.2.2.2.1 w0.2.2.2.2).mono fun e W' ⟨he, bel⟩ => ?_
  subst he
  exact ⟨_, rfl, _, _, _, [], _, [], hW', trodAll_mk1 (shut_bool Try.underlying4 _), (trodAll_cons_mk (Below.trod laidOut (by kernel_rfl) (of_decide_eq_true (by kernel_rfl)) k0 bel lt0) trodAll_mk0), rfl, bel.frame _, fun h => by cases h⟩

theorem over : Rows.fnExactInnOkRow.holds Try.pinned (OpenSpec.ofChange Rows.fnExactInnOkSpec) :=
  OpenClaim.holds_of_wide 3 Try.f3 rfl rfl rfl rfl rfl rfl rfl ⟨rfl, rfl, rfl, rfl, rfl⟩ rfl rfl rfl rfl rfl (by kernel_rfl) Try.func3 (by kernel_rfl)
    (of_decide_eq_true (by kernel_rfl)) (by unfold Func.isWrapper; first | (rw [if_pos (by decide +kernel)]; kernel_rfl) | (rw [if_neg (by decide +kernel)]; exact ⟨rfl, rfl⟩))
    (fun os started H enc _ => lifted os started H enc)

end Go.Proofs.Ytioogmeghmeelaa.fnExactInnOk

namespace Go.Proofs.Ytioogmeghmeelaa
theorem fnExactInnOk_proved : Rows.FnExactInnOkSaid := fnExactInnOk.over
#print axioms fnExactInnOk_proved
end Go.Proofs.Ytioogmeghmeelaa

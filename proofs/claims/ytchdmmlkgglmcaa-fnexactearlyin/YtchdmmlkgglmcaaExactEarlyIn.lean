/-
  The law FnExactEarlyIn returns true at every seat, and it reads behind the call as it read before: EarlyIn of the program and of the model answer alike. No condition.
-/
import Derived.Test.YtchdmmlkgglmcaaRows
import Derived.WalkKit
import Derived.ProofKit
import Derived.OpenShut
import Derived.ShutString
import Derived.ChangeOld
import Derived.Below
import Derived.SliceStrings
import Derived.Lib.SmallJoins
import Derived.Test.YtchdmmlkgglmcaaOpen14
import Derived.Test.YtchdmmlkgglmcaaSeat4
import Derived.Test.YtchdmmlkgglmcaaImpl14
namespace Go.Proofs.Ytchdmmlkgglmcaa.fnExactEarlyIn
open Go.ChangeShapes Go.WideShapes Go.ChangeAt Go.RowKit
open Go.ChangeMaps (open_string shut_string)
set_option linter.unusedVariables false

set_option maxRecDepth 100000 in
set_option maxHeartbeats 16000000 in
theorem walk (w : World) (s : Tx.SeatV) (A : Option Addr) (n cap : Nat) (l : List Tx.WordV) (h : Tx.EltsO w w.heap.size A n l) (hl : n ≤ maxLen) (hz : ∀ t ∈ l, t.t.size ≤ maxLen) :
    Calls Try.prog 6 #[s.val A n cap] w fun e w' => e = .returned (.bool true) ∧ Below w.heap.size w w' := by
  have hl' : n ≤ 9223372036854775807 := by have e : (2 : Nat) ^ 63 - 1 = 9223372036854775807 := rfl; rw [← e]; exact hl
  have hz' : ∀ t ∈ l, t.t.size ≤ 9223372036854775807 := fun t ht => by have e : (2 : Nat) ^ 63 - 1 = 9223372036854775807 := rfl; rw [← e]; exact hz t ht
  have E := Lib.hid h
  have hln := h.1
  clear hl h hz
  obtain ⟨st, sh, sd, sp, ⟨⟨eu, es, eh, ea⟩, en⟩, ⟨⟨fu, fs, fh, fa⟩, fn⟩⟩ := s
  have HV : Hid (Tx.SeatV.val ⟨st, sh, sd, sp, ⟨⟨eu, es, eh, ea⟩, en⟩, ⟨⟨fu, fs, fh, fa⟩, fn⟩⟩ A n cap = .agg #[.int .i64 st, .int .i64 sh, .int .i64 sd, .int .i64 sp, .int .i64 eu, .int .i64 es, .int .i64 eh, .int .i64 ea, .int .i64 en, .int .i64 fu, .int .i64 fs, .int .i64 fh, .int .i64 fa, .int .i64 fn, .slice A n cap]) := rfl
  rw [HV.out]
  obtain ⟨W0, hW0⟩ : ∃ W, w.alloc (.cells #[.int .i64 st, .int .i64 sh, .int .i64 sd, .int .i64 sp, .int .i64 eu, .int .i64 es, .int .i64 eh, .int .i64 ea, .int .i64 en, .int .i64 fu, .int .i64 fs, .int .i64 fh, .int .i64 fa, .int .i64 fn, .slice A n cap] 28) = W := ⟨_, rfl⟩
  have K0 : Hid (Below w.heap.size w W0) := by rw [← hW0]; exact (Below.refl _ w).alloc (Nat.le_refl _) _
  have Q0 : Hid (W0.heap[w.heap.size]? = some (.cells #[.int .i64 st, .int .i64 sh, .int .i64 sd, .int .i64 sp, .int .i64 eu, .int .i64 es, .int .i64 eh, .int .i64 ea, .int .i64 en, .int .i64 fu, .int .i64 fs, .int .i64 fh, .int .i64 fa, .int .i64 fn, .slice A n cap] 28)) := by rw [← hW0]; exact Tx.heap1 w _
  go_enter Try.func6, Try.ntmps6
  go_wp2_with (refine wpList_load_row rfl 28 _ rfl (w.heap.size) rfl 28 _ (0, 0) _ Q0.out Try.underlying28 rfl (by kernel_rfl) ?_)
  clear hW0
  have cz := Tx.szSeat_any ⟨st, sh, sd, sp, ⟨⟨eu, es, eh, ea⟩, en⟩, ⟨⟨fu, fs, fh, fa⟩, fn⟩⟩ A n cap l 1048576 W0 ((E.out.below K0.out).mono K0.out.size) hl' hz' (by omega) (by omega)
  rw [HV.out] at cz
  refine cz.mono ?_
  rintro e w1 ⟨L, rfl, hL1, hL2, hb⟩
  have Q1 := Lib.hid (Tx.blk_on hb Q0.out)
  have K1 := Lib.hid (K0.out.trans (hb.mono K0.out.size))
  clear hb cz hl' hz' Q0 K0
  by_cases hL : L < 0
  ·
    go_wp2
    go_ret
    exact ⟨rfl, K1.out⟩
  have hn : n ≤ 1048576 := hL2 (by omega)
  clear hL1 hL2
  have cT : Hid (∀ (w' : World), Tx.EltsO w' w'.heap.size A n l → Calls Try.prog 9 #[.agg #[.int .i64 st, .int .i64 sh, .int .i64 sd, .int .i64 sp, .int .i64 eu, .int .i64 es, .int .i64 eh, .int .i64 ea, .int .i64 en, .int .i64 fu, .int .i64 fs, .int .i64 fh, .int .i64 fa, .int .i64 fn, .slice A n cap]] w' fun e w'' => ∃ g, e = .returned (.agg #[.int .i64 st, .int .i64 sh, .int .i64 sd, .int .i64 sp, .int .i64 eu, .int .i64 es, .int .i64 eh, .int .i64 ea, .int .i64 en, .int .i64 fu, .int .i64 fs, .int .i64 fh, .int .i64 fa, .int .i64 fn, .slice (some ⟨g, 0, none⟩) n n]) ∧ w'.heap.size ≤ g ∧ Tx.CopyE w'' g n l ∧ Below w'.heap.size w' w'') := fun w' hE => Tx.toSeat_any ⟨st, sh, sd, sp, ⟨⟨eu, es, eh, ea⟩, en⟩, ⟨⟨fu, fs, fh, fa⟩, fn⟩⟩ A n cap l w' hE hn
  have cS : Hid (∀ (g : Nat) (w' : World), Tx.EltsO w' w'.heap.size (some ⟨g, 0, none⟩) n l → Calls Try.prog 21 #[.agg #[.int .i64 st, .int .i64 sh, .int .i64 sd, .int .i64 sp, .int .i64 eu, .int .i64 es, .int .i64 eh, .int .i64 ea, .int .i64 en, .int .i64 fu, .int .i64 fs, .int .i64 fh, .int .i64 fa, .int .i64 fn, .slice (some ⟨g, 0, none⟩) n n]] w' fun e w'' => e = .returned (.int .i64 (((Tx.earlyN l : Nat) : Int))) ∧ Below w'.heap.size w' w'') := fun g w' hE => Tx.EarlyIn_spec ⟨st, sh, sd, sp, ⟨⟨eu, es, eh, ea⟩, en⟩, ⟨⟨fu, fs, fh, fa⟩, fn⟩⟩ (some ⟨g, 0, none⟩) n n l w' hE hn
  have cI : Hid (∀ (g : Nat) (w' : World), Tx.EltsO w' w'.heap.size (some ⟨g, 0, none⟩) n l → Calls Try.prog 22 #[.agg #[.int .i64 st, .int .i64 sh, .int .i64 sd, .int .i64 sp, .int .i64 eu, .int .i64 es, .int .i64 eh, .int .i64 ea, .int .i64 en, .int .i64 fu, .int .i64 fs, .int .i64 fh, .int .i64 fa, .int .i64 fn, .slice (some ⟨g, 0, none⟩) n n]] w' fun e w'' => e = .returned (.int .i64 (((Tx.earlyN l : Nat) : Int))) ∧ Below w'.heap.size w' w'') := fun g w' hE => Tx.EarlyIn_impl ⟨st, sh, sd, sp, ⟨⟨eu, es, eh, ea⟩, en⟩, ⟨⟨fu, fs, fh, fa⟩, fn⟩⟩ (some ⟨g, 0, none⟩) n n l w' hE hn
  generalize ((Tx.earlyN l : Nat) : Int) = y at cS cI
  have hyy : (y != y) = false := by simp
  clear HV
  go_wp2_with (refine wpList_load_row rfl 28 _ rfl (w.heap.size) rfl 28 _ (0, 0) _ Q1.out Try.underlying28 rfl (by kernel_rfl) ?_)
  refine (cT.out _ ((E.out.below K1.out).mono K1.out.size)).mono ?_
  rintro e w2 ⟨ga, rfl, hgga, hcga, hb⟩
  have Q2 := Lib.hid (Tx.blk_on hb Q1.out)
  have K2 := Lib.hid (K1.out.trans (hb.mono K1.out.size))
  clear hb Q1 K1
  go_wp2_with fail
  refine (cS.out _ _ (hcga.elts hln)).mono ?_
  rintro e w3 ⟨rfl, hb⟩
  have Q3 := Lib.hid (Tx.blk_on hb Q2.out)
  have K3 := Lib.hid (K2.out.trans (hb.mono K2.out.size))
  clear hb Q2 K2
  clear hcga
  go_wp2_with (refine wpList_load_row rfl 28 _ rfl (w.heap.size) rfl 28 _ (0, 0) _ Q3.out Try.underlying28 rfl (by kernel_rfl) ?_)
  refine (cT.out _ ((E.out.below K3.out).mono K3.out.size)).mono ?_
  rintro e w4 ⟨gx, rfl, hggx, hcgx, hb⟩
  have Q4 := Lib.hid (Tx.blk_on hb Q3.out)
  have K4 := Lib.hid (K3.out.trans (hb.mono K3.out.size))
  clear hb Q3 K3
  have Z0 := Lib.hid hcgx
  clear hcgx
  obtain ⟨V5, hV5⟩ : ∃ V, w4.alloc (.cells #[.int .i64 0, .int .i64 0, .int .i64 0, .int .i64 0, .int .i64 0, .int .i64 0, .int .i64 0, .int .i64 0, .int .i64 0, .int .i64 0, .int .i64 0, .int .i64 0, .int .i64 0, .int .i64 0, .slice none 0 0] 36) = V := ⟨_, rfl⟩
  have ltV5Q : w.heap.size < w4.heap.size := Tx.blk_in Q4.out
  have Q5 : Hid (V5.heap[w.heap.size]? = some (.cells #[.int .i64 st, .int .i64 sh, .int .i64 sd, .int .i64 sp, .int .i64 eu, .int .i64 es, .int .i64 eh, .int .i64 ea, .int .i64 en, .int .i64 fu, .int .i64 fs, .int .i64 fh, .int .i64 fa, .int .i64 fn, .slice A n cap] 28)) := by rw [← hV5]; exact Tx.alloc_blk Q4.out
  have hb : Below w4.heap.size w4 V5 := by rw [← hV5]; exact (Below.refl _ w4).alloc (Nat.le_refl _) _
  have K5 := Lib.hid (K4.out.trans (hb.mono K4.out.size))
  have X5 : Hid (V5.heap[w4.heap.size]? = some (.cells #[.int .i64 0, .int .i64 0, .int .i64 0, .int .i64 0, .int .i64 0, .int .i64 0, .int .i64 0, .int .i64 0, .int .i64 0, .int .i64 0, .int .i64 0, .int .i64 0, .int .i64 0, .int .i64 0, .slice none 0 0] 36)) := by rw [← hV5]; exact Tx.heap1 w4 _
  have lbV5 : w.heap.size ≤ w4.heap.size := K4.out.size
  clear hb Q4 K4
  have Z1 : Hid (Tx.CopyE V5 gx n l) := by rw [← hV5]; exact Z0.out.on ((Below.refl _ _).alloc (Nat.le_refl _) _)
  have hgl := Z0.out.lies.1
  clear Z0
  have Q6 : Hid ((V5.setRow w4.heap.size #[.int .i64 st, .int .i64 sh, .int .i64 sd, .int .i64 sp, .int .i64 eu, .int .i64 es, .int .i64 eh, .int .i64 ea, .int .i64 en, .int .i64 fu, .int .i64 fs, .int .i64 fh, .int .i64 fa, .int .i64 fn, .slice (some ⟨gx, 0, none⟩) n n]).heap[w.heap.size]? = some (.cells #[.int .i64 st, .int .i64 sh, .int .i64 sd, .int .i64 sp, .int .i64 eu, .int .i64 es, .int .i64 eh, .int .i64 ea, .int .i64 en, .int .i64 fu, .int .i64 fs, .int .i64 fh, .int .i64 fa, .int .i64 fn, .slice A n cap] 28)) := (setRow_other _ _ _ _ (by omega)).trans Q5.out
  have X6 : Hid ((V5.setRow w4.heap.size #[.int .i64 st, .int .i64 sh, .int .i64 sd, .int .i64 sp, .int .i64 eu, .int .i64 es, .int .i64 eh, .int .i64 ea, .int .i64 en, .int .i64 fu, .int .i64 fs, .int .i64 fh, .int .i64 fa, .int .i64 fn, .slice (some ⟨gx, 0, none⟩) n n]).heap[w4.heap.size]? = some (.cells #[.int .i64 st, .int .i64 sh, .int .i64 sd, .int .i64 sp, .int .i64 eu, .int .i64 es, .int .i64 eh, .int .i64 ea, .int .i64 en, .int .i64 fu, .int .i64 fs, .int .i64 fh, .int .i64 fa, .int .i64 fn, .slice (some ⟨gx, 0, none⟩) n n] 36)) := setRow_heap _ _ _ _ _ _ X5.out
  have K6 : Hid (Below w.heap.size w (V5.setRow w4.heap.size #[.int .i64 st, .int .i64 sh, .int .i64 sd, .int .i64 sp, .int .i64 eu, .int .i64 es, .int .i64 eh, .int .i64 ea, .int .i64 en, .int .i64 fu, .int .i64 fs, .int .i64 fh, .int .i64 fa, .int .i64 fn, .slice (some ⟨gx, 0, none⟩) n n])) := below_setRow K5.out (by omega) _
  go_wp2_with (first | (refine wpList_store_row rfl 36 _ _ rfl (w4.heap.size) #[.int .i64 st, .int .i64 sh, .int .i64 sd, .int .i64 sp, .int .i64 eu, .int .i64 es, .int .i64 eh, .int .i64 ea, .int .i64 en, .int .i64 fu, .int .i64 fs, .int .i64 fh, .int .i64 fa, .int .i64 fn, .slice (some ⟨gx, 0, none⟩) n n] rfl rfl 36 _ X5.out (by kernel_rfl) rfl (by simp [Value.oneCell']) ?_) | (refine wpList_load_row rfl 36 _ rfl (w4.heap.size) rfl 36 _ (0, 0) _ X6.out Try.underlying36 rfl (by kernel_rfl) ?_))
  have Z2 : Hid (Tx.CopyE (V5.setRow w4.heap.size #[.int .i64 st, .int .i64 sh, .int .i64 sd, .int .i64 sp, .int .i64 eu, .int .i64 es, .int .i64 eh, .int .i64 ea, .int .i64 en, .int .i64 fu, .int .i64 fs, .int .i64 fh, .int .i64 fa, .int .i64 fn, .slice (some ⟨gx, 0, none⟩) n n]) gx n l) := Lib.hid (Z1.out.heap (setRow_other _ _ _ _ (by omega)) (Nat.le_of_eq (size_setRow _ _ _).symm))
  clear Z1 hV5 Q5 X5 K5
  generalize V5.setRow w4.heap.size #[.int .i64 st, .int .i64 sh, .int .i64 sd, .int .i64 sp, .int .i64 eu, .int .i64 es, .int .i64 eh, .int .i64 ea, .int .i64 en, .int .i64 fu, .int .i64 fs, .int .i64 fh, .int .i64 fa, .int .i64 fn, .slice (some ⟨gx, 0, none⟩) n n] = S6 at Q6 X6 K6 Z2 ⊢
  refine (cI.out _ _ (Z2.out.elts hln)).mono ?_
  rintro e w7 ⟨rfl, hb⟩
  have Z3 := Lib.hid (Z2.out.on hb)
  clear Z2
  have Q7 := Lib.hid (Tx.blk_on hb Q6.out)
  have X7 := Lib.hid (Tx.blk_on hb X6.out)
  have K7 := Lib.hid (K6.out.trans (hb.mono K6.out.size))
  clear hb Q6 X6 K6
  go_wp2
  refine Tx.wp_region_own (W := w7) [] (fun _ => True) Tx.stays_true trivial [0, 0, 1, 1, 0] (by kernel_rfl) (by kernel_rfl) (by kernel_rfl) ?_
  have rX : Hid (∀ q : Tx.In (Tx.plainEnv w7 []), q.w.heap[w4.heap.size]? = some (.cells #[.int .i64 st, .int .i64 sh, .int .i64 sd, .int .i64 sp, .int .i64 eu, .int .i64 es, .int .i64 eh, .int .i64 ea, .int .i64 en, .int .i64 fu, .int .i64 fs, .int .i64 fh, .int .i64 fa, .int .i64 fn, .slice (some ⟨gx, 0, none⟩) n n] 36)) := fun q => q.block X7.out (by simp)
  have rQ : Hid (∀ q : Tx.In (Tx.plainEnv w7 []), q.w.heap[w.heap.size]? = some (.cells #[.int .i64 st, .int .i64 sh, .int .i64 sd, .int .i64 sp, .int .i64 eu, .int .i64 es, .int .i64 eh, .int .i64 ea, .int .i64 en, .int .i64 fu, .int .i64 fs, .int .i64 fh, .int .i64 fa, .int .i64 fn, .slice A n cap] 28)) := fun q => q.block Q7.out (by simp)
  refine Tx.wpO_load_row rfl 36 _ rfl (w4.heap.size) rfl 36 _ (0, 0) _ rX.out Try.underlying36 rfl (by kernel_rfl) ?_
  simp only [Act.put, List.setIfInBounds_toArray, List.set_cons_succ, List.set_cons_zero]
  refine Tx.wpO_load_row rfl 28 _ rfl (w.heap.size) rfl 28 _ (0, 0) _ rQ.out Try.underlying28 rfl (by kernel_rfl) ?_
  simp only [Act.put, List.setIfInBounds_toArray, List.set_cons_succ, List.set_cons_zero]
  refine Tx.wpO_callx (f := 9) (args := #[.agg #[.int .i64 st, .int .i64 sh, .int .i64 sd, .int .i64 sp, .int .i64 eu, .int .i64 es, .int .i64 eh, .int .i64 ea, .int .i64 en, .int .i64 fu, .int .i64 fs, .int .i64 fh, .int .i64 fa, .int .i64 fn, .slice A n cap]]) (α := Nat) (fun g => .agg #[.int .i64 st, .int .i64 sh, .int .i64 sd, .int .i64 sp, .int .i64 eu, .int .i64 es, .int .i64 eh, .int .i64 ea, .int .i64 en, .int .i64 fu, .int .i64 fs, .int .i64 fh, .int .i64 fa, .int .i64 fn, .slice (some ⟨g, 0, none⟩) n n]) (fun g => [g]) (fun g w' => Tx.CopyE w' g n l) rfl (fun w' => by simp [go_sem]) (fun g w1 w2 hw h b => h.on b) (fun G => ?_) (fun w' hw hF => ?_) (fun gy hgy => ?_)
  · obtain ⟨g, hg, hn'⟩ := Tx.fresh_above w7.heap.size G
    exact ⟨g, fun k hk => by simp at hk; subst hk; exact ⟨hg, hn'⟩⟩
  · have kb := Tx.kept_below hw
    have kk := kb.size
    exact (Tx.toSeat_any ⟨st, sh, sd, sp, ⟨⟨eu, es, eh, ea⟩, en⟩, ⟨⟨fu, fs, fh, fa⟩, fn⟩⟩ A n cap l w' ((E.out.below (K7.out.trans (kb.mono K7.out.size))).mono (Nat.le_trans K7.out.size kb.size)) hn).mono fun e w'' ⟨g, he, h1, m, b1⟩ => ⟨g, he, m, b1, fun k hk => by simp at hk; subst hk; exact ⟨by omega, m.lies.1⟩⟩
  simp only [Act.put, List.setIfInBounds_toArray, List.set_cons_succ, List.set_cons_zero]
  refine Tx.wpO_call (f := 11) (args := #[.agg #[.int .i64 st, .int .i64 sh, .int .i64 sd, .int .i64 sp, .int .i64 eu, .int .i64 es, .int .i64 eh, .int .i64 ea, .int .i64 en, .int .i64 fu, .int .i64 fs, .int .i64 fh, .int .i64 fa, .int .i64 fn, .slice (some ⟨gx, 0, none⟩) n n], .agg #[.int .i64 st, .int .i64 sh, .int .i64 sd, .int .i64 sp, .int .i64 eu, .int .i64 es, .int .i64 eh, .int .i64 ea, .int .i64 en, .int .i64 fu, .int .i64 fs, .int .i64 fh, .int .i64 fa, .int .i64 fn, .slice (some ⟨gy, 0, none⟩) n n]]) (.bool true) rfl (fun w' => by simp [go_sem]) (fun w' hC hF => Tx.eqSeat_same ⟨st, sh, sd, sp, ⟨⟨eu, es, eh, ea⟩, en⟩, ⟨⟨fu, fs, fh, fa⟩, fn⟩⟩ _ _ n n n l w' ((Z3.out.on (Tx.kept_below hC)).elts hln) (hF.2.elts hln) hn) ?_
  simp only [Act.put, List.setIfInBounds_toArray, List.set_cons_succ, List.set_cons_zero]
  refine Tx.wpO_quiet 1 rfl (by kernel_rfl) ?_
  simp only [List.take, List.drop]
  repeat (go_big_quiet_step (fail))
  refine wpQuiet_nil ?_
  clear hgy
  refine Tx.wpO_nil ?_
  rintro w8 hb' _
  have hb := Tx.kept_below hb'
  have Q8 := Lib.hid (Tx.blk_on hb Q7.out)
  have X8 := Lib.hid (Tx.blk_on hb X7.out)
  have K8 := Lib.hid (K7.out.trans (hb.mono K7.out.size))
  clear rX rQ hb hb' Q7 X7 K7
  go_wp2
  go_ret
  exact ⟨rfl, K8.out⟩

theorem own : ownKnob Try.prog.godebug = none := by kernel_rfl
theorem laidOut : laidOutB Try.prog = true := by kernel_rfl

set_option maxRecDepth 100000 in
theorem lifted (os : Os) (started : os.Started) (H : Type) (enc : TypeId × Value → H) :
    ReturnsInHanded {} Try.checked os 6 .any (Rows.fnExactEarlyInSpec.pre6 enc Try.prog Try.f6 Rows.fnExactEarlyInRow.domain false) (Rows.fnExactEarlyInSpec.post enc Try.prog Try.f6 false true false false) := by
  refine returnsInHanded_of_change (C := Try.checked) own started (by kernel_rfl) Try.func6
    (ChangeSpec.witness6 (enc := enc) (C := Try.checked) false ⟨#[], #[.agg #[.int .i64 0, .int .i64 0, .int .i64 0, .int .i64 0, .int .i64 0, .int .i64 0, .int .i64 0, .int .i64 0, .int .i64 0, .int .i64 0, .int .i64 0, .int .i64 0, .int .i64 0, .int .i64 0, .slice none 0 0]], []⟩ 8 (by kernel_rfl) (by kernel_rfl) (by kernel_rfl) (by kernel_rfl)) ?_
  intro W base args ds gs before hval0 hW hcnd _
  have hval : ∀ (j : Nat) t v, Try.f6.params[j]? = some t → args[j]? = some v → Value.okWide Try.prog W .any base t v := hval0
  have hW' := hW
  obtain ⟨p, q, hA0, hV, rfl, hfz, hnd⟩ := hW
  have hA : DataW.TrodAll enc Try.prog W 0 (fun _ => true) true Try.f6.params.toList args.toList ds p := hA0
  rw [Try.params6] at hA hval
  obtain ⟨v0, vs0, d0, ds0, p0, q0, hargs, rfl, rfl, h0, r0⟩ := trodAll_cons hA
  obtain ⟨rfl, rfl, rfl⟩ := trodAll_nil r0
  obtain rfl : args = #[v0] := by cases args; simp_all
  obtain ⟨rfl, rfl⟩ := trodVars_none hV
  have k0 := h0
  have lt0 : ∀ x ∈ p0, x.block < W.heap.size := by obtain ⟨m, hm⟩ := k0; exact DataW.trod_lt m _ _ _ hm
  obtain ⟨s0, A0, n0, cp0, z0, rfl, w0⟩ := Tx.open_seat (hval 0 28 v0 rfl rfl) h0
  clear hA0 hval0
  refine (walk W s0 A0 n0 cp0 z0 w0.1 w0.2.1 w0.2.2).mono fun e W' ⟨he, bel⟩ => ?_
  subst he
  exact ⟨_, rfl, _, _, _, [], _, [], hW', trodAll_mk1 (shut_bool Try.underlying4 _), (trodAll_cons_mk (Below.trod laidOut (by kernel_rfl) (of_decide_eq_true (by kernel_rfl)) k0 bel lt0) trodAll_mk0), rfl, bel.frame _, fun h => by cases h⟩

theorem over : Rows.fnExactEarlyInRow.holds Try.pinned (OpenSpec.ofChange Rows.fnExactEarlyInSpec) :=
  OpenClaim.holds_of_wide 6 Try.f6 rfl rfl rfl rfl rfl rfl rfl ⟨rfl, rfl, rfl, rfl, rfl⟩ rfl rfl rfl rfl rfl (by kernel_rfl) Try.func6 (by kernel_rfl)
    (of_decide_eq_true (by kernel_rfl)) (by unfold Func.isWrapper; first | (rw [if_pos (by decide +kernel)]; kernel_rfl) | (rw [if_neg (by decide +kernel)]; exact ⟨rfl, rfl⟩))
    (fun os started H enc _ => lifted os started H enc)

end Go.Proofs.Ytchdmmlkgglmcaa.fnExactEarlyIn

namespace Go.Proofs.Ytchdmmlkgglmcaa
theorem fnExactEarlyIn_proved : Rows.FnExactEarlyInSaid := fnExactEarlyIn.over
#print axioms fnExactEarlyIn_proved
end Go.Proofs.Ytchdmmlkgglmcaa

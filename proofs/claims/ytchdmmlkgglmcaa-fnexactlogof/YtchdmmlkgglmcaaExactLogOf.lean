/-
  The law FnExactLogOf returns true at every seat, and it reads behind the call as it read before: LogOf of the program and of the model answer alike, and what the program answers is new memory. No condition.
-/
import Derived.Test.YtchdmmlkgglmcaaRows
import Derived.WalkKit
import Derived.ProofKit
import Derived.OpenShut
import Derived.ShutString
import Derived.ChangeOld
import Derived.Below
import Derived.SliceStrings
import Derived.Lib.SmallJoins
import Derived.Test.YtchdmmlkgglmcaaOpen14
import Derived.Test.YtchdmmlkgglmcaaSeat7
import Derived.Test.YtchdmmlkgglmcaaImpl14
namespace Go.Proofs.Ytchdmmlkgglmcaa.fnExactLogOf
open Go.ChangeShapes Go.WideShapes Go.ChangeAt Go.RowKit
open Go.ChangeMaps (open_string shut_string)
set_option linter.unusedVariables false

set_option maxRecDepth 100000 in
set_option maxHeartbeats 32000000 in
theorem walk (w : World) (s : Tx.SeatV) (A : Option Addr) (n cap : Nat) (l : List Tx.WordV) (h : Tx.EltsO w w.heap.size A n l) (hl : n ≤ maxLen) (hz : ∀ t ∈ l, t.t.size ≤ maxLen) :
    Calls Try.prog 5 #[s.val A n cap] w fun e w' => e = .returned (.bool true) ∧ Below w.heap.size w w' := by
  have hl' : n ≤ 9223372036854775807 := by have e : (2 : Nat) ^ 63 - 1 = 9223372036854775807 := rfl; rw [← e]; exact hl
  have hz' : ∀ t ∈ l, t.t.size ≤ 9223372036854775807 := fun t ht => by have e : (2 : Nat) ^ 63 - 1 = 9223372036854775807 := rfl; rw [← e]; exact hz t ht
  have E := Lib.hid h
  have hln := h.1
  clear hl h hz
  obtain ⟨st, sh, sd, sp, ⟨⟨eu, es, eh, ea⟩, en⟩, ⟨⟨fu, fs, fh, fa⟩, fn⟩⟩ := s
  have HV : Hid (Tx.SeatV.val ⟨st, sh, sd, sp, ⟨⟨eu, es, eh, ea⟩, en⟩, ⟨⟨fu, fs, fh, fa⟩, fn⟩⟩ A n cap = .agg #[.int .i64 st, .int .i64 sh, .int .i64 sd, .int .i64 sp, .int .i64 eu, .int .i64 es, .int .i64 eh, .int .i64 ea, .int .i64 en, .int .i64 fu, .int .i64 fs, .int .i64 fh, .int .i64 fa, .int .i64 fn, .slice A n cap]) := rfl
  rw [HV.out]
  obtain ⟨W0, hW0⟩ : ∃ W, w.alloc (.cells #[.int .i64 st, .int .i64 sh, .int .i64 sd, .int .i64 sp, .int .i64 eu, .int .i64 es, .int .i64 eh, .int .i64 ea, .int .i64 en, .int .i64 fu, .int .i64 fs, .int .i64 fh, .int .i64 fa, .int .i64 fn, .slice A n cap] 28) = W := ⟨_, rfl⟩
  have K0 : Hid (Below w.heap.size w W0) := by rw [← hW0]; exact (Below.refl _ w).alloc (Nat.le_refl _) _
  have Q0 : Hid (W0.heap[w.heap.size]? = some (.cells #[.int .i64 st, .int .i64 sh, .int .i64 sd, .int .i64 sp, .int .i64 eu, .int .i64 es, .int .i64 eh, .int .i64 ea, .int .i64 en, .int .i64 fu, .int .i64 fs, .int .i64 fh, .int .i64 fa, .int .i64 fn, .slice A n cap] 28)) := by rw [← hW0]; exact Tx.heap1 w _
  have zW0 : W0.heap.size = w.heap.size + 1 := by rw [← hW0]; simp
  go_enter Try.func5, Try.ntmps5
  go_wp2_with (refine wpList_load_row rfl 28 _ rfl (w.heap.size) rfl 28 _ (0, 0) _ Q0.out Try.underlying28 rfl (by kernel_rfl) ?_)
  clear hW0
  have cz := Tx.szSeat_any ⟨st, sh, sd, sp, ⟨⟨eu, es, eh, ea⟩, en⟩, ⟨⟨fu, fs, fh, fa⟩, fn⟩⟩ A n cap l 1048576 W0 ((E.out.below K0.out).mono K0.out.size) hl' hz' (by omega) (by omega)
  rw [HV.out] at cz
  refine cz.mono ?_
  rintro e w1 ⟨Lf, rfl, hL1, hL2, hb⟩
  have hsz1 := hb.size
  have Q1 := Lib.hid (Tx.blk_on hb Q0.out)
  have K1 := Lib.hid (K0.out.trans (hb.mono K0.out.size))
  clear hb cz hl' hz' Q0 K0
  by_cases hL : Lf < 0
  ·
    go_wp2
    go_ret
    exact ⟨rfl, K1.out⟩
  have hn : n ≤ 1048576 := hL2 (by omega)
  clear hL1 hL2
  have cT : Hid (∀ (w' : World), Tx.EltsO w' w'.heap.size A n l → Calls Try.prog 9 #[.agg #[.int .i64 st, .int .i64 sh, .int .i64 sd, .int .i64 sp, .int .i64 eu, .int .i64 es, .int .i64 eh, .int .i64 ea, .int .i64 en, .int .i64 fu, .int .i64 fs, .int .i64 fh, .int .i64 fa, .int .i64 fn, .slice A n cap]] w' fun e w'' => ∃ g, e = .returned (.agg #[.int .i64 st, .int .i64 sh, .int .i64 sd, .int .i64 sp, .int .i64 eu, .int .i64 es, .int .i64 eh, .int .i64 ea, .int .i64 en, .int .i64 fu, .int .i64 fs, .int .i64 fh, .int .i64 fa, .int .i64 fn, .slice (some ⟨g, 0, none⟩) n n]) ∧ w'.heap.size ≤ g ∧ Tx.CopyE w'' g n l ∧ Below w'.heap.size w' w'') := fun w' hE => Tx.toSeat_any ⟨st, sh, sd, sp, ⟨⟨eu, es, eh, ea⟩, en⟩, ⟨⟨fu, fs, fh, fa⟩, fn⟩⟩ A n cap l w' hE hn
  have cS : Hid (∀ (g : Nat) (w' : World), Tx.EltsO w' w'.heap.size (some ⟨g, 0, none⟩) n l → Calls Try.prog 16 #[.agg #[.int .i64 st, .int .i64 sh, .int .i64 sd, .int .i64 sp, .int .i64 eu, .int .i64 es, .int .i64 eh, .int .i64 ea, .int .i64 en, .int .i64 fu, .int .i64 fs, .int .i64 fh, .int .i64 fa, .int .i64 fn, .slice (some ⟨g, 0, none⟩) n n]] w' fun e w'' => ∃ gb cb, e = .returned (.slice (some ⟨gb, 0, none⟩) (l.map Tx.WordV.t).length cb) ∧ Tx.MadeE w'' w'.heap.size 9 (l.map Tx.WordV.t) gb cb ∧ Below w'.heap.size w' w'') := fun g w' hE => Tx.LogOf_spec ⟨st, sh, sd, sp, ⟨⟨eu, es, eh, ea⟩, en⟩, ⟨⟨fu, fs, fh, fa⟩, fn⟩⟩ (some ⟨g, 0, none⟩) n n l w' hE hn
  have cI : Hid (∀ (g : Nat) (w' : World), Tx.EltsO w' w'.heap.size (some ⟨g, 0, none⟩) n l → Calls Try.prog 17 #[.agg #[.int .i64 st, .int .i64 sh, .int .i64 sd, .int .i64 sp, .int .i64 eu, .int .i64 es, .int .i64 eh, .int .i64 ea, .int .i64 en, .int .i64 fu, .int .i64 fs, .int .i64 fh, .int .i64 fa, .int .i64 fn, .slice (some ⟨g, 0, none⟩) n n]] w' fun e w'' => ∃ gb cb, e = .returned (.slice (some ⟨gb, 0, none⟩) (l.map Tx.WordV.t).length cb) ∧ Tx.MadeE w'' w'.heap.size 9 (l.map Tx.WordV.t) gb cb ∧ Below w'.heap.size w' w'') := fun g w' hE => Tx.LogOf_impl ⟨st, sh, sd, sp, ⟨⟨eu, es, eh, ea⟩, en⟩, ⟨⟨fu, fs, fh, fa⟩, fn⟩⟩ (some ⟨g, 0, none⟩) n n l w' hE hn
  have hss : (l.map Tx.WordV.t).length = n := by rw [List.length_map]; exact hln
  rw [hss] at cS cI
  generalize l.map Tx.WordV.t = ss at cS cI hss
  clear HV
  go_wp2_with (refine wpList_load_row rfl 28 _ rfl (w.heap.size) rfl 28 _ (0, 0) _ Q1.out Try.underlying28 rfl (by kernel_rfl) ?_)
  refine (cT.out _ ((E.out.below K1.out).mono K1.out.size)).mono ?_
  rintro e w2 ⟨ga0, rfl, hgga0, hcga0, hb⟩
  have hsz2 := hb.size
  have Q2 := Lib.hid (Tx.blk_on hb Q1.out)
  have K2 := Lib.hid (K1.out.trans (hb.mono K1.out.size))
  clear hb Q1 K1
  go_wp2_with fail
  have hkMS := K2.out.size
  refine (cS.out _ _ (hcga0.elts hln)).mono ?_
  rintro e w3 ⟨ga, ca, rfl, hmMS, hb⟩
  have hgMS := hmMS.base
  have hsz3 := hb.size
  have Q3 := Lib.hid (Tx.blk_on hb Q2.out)
  have K3 := Lib.hid (K2.out.trans (hb.mono K2.out.size))
  clear hb Q2 K2
  have MS3 := Lib.hid (hmMS.mono hkMS)
  clear hmMS hkMS
  clear hcga0
  go_wp2_with (refine wpList_load_row rfl 28 _ rfl (w.heap.size) rfl 28 _ (0, 0) _ Q3.out Try.underlying28 rfl (by kernel_rfl) ?_)
  refine (cT.out _ ((E.out.below K3.out).mono K3.out.size)).mono ?_
  rintro e w4 ⟨gx, rfl, hggx, hcgx, hb⟩
  have hsz4 := hb.size
  have Q4 := Lib.hid (Tx.blk_on hb Q3.out)
  have MS4 := Lib.hid (MS3.out.below hb)
  have K4 := Lib.hid (K3.out.trans (hb.mono K3.out.size))
  clear hb Q3 K3 MS3
  have Z4 := Lib.hid hcgx
  have hgxl := hcgx.lies.1
  clear hcgx
  obtain ⟨V5, hV5⟩ : ∃ V, w4.alloc (.cells #[.int .i64 0, .int .i64 0, .int .i64 0, .int .i64 0, .int .i64 0, .int .i64 0, .int .i64 0, .int .i64 0, .int .i64 0, .int .i64 0, .int .i64 0, .int .i64 0, .int .i64 0, .int .i64 0, .slice none 0 0] 36) = V := ⟨_, rfl⟩
  have ltV5Q : w.heap.size < w4.heap.size := Tx.blk_in Q4.out
  have Q5 : Hid (V5.heap[w.heap.size]? = some (.cells #[.int .i64 st, .int .i64 sh, .int .i64 sd, .int .i64 sp, .int .i64 eu, .int .i64 es, .int .i64 eh, .int .i64 ea, .int .i64 en, .int .i64 fu, .int .i64 fs, .int .i64 fh, .int .i64 fa, .int .i64 fn, .slice A n cap] 28)) := by rw [← hV5]; exact Tx.alloc_blk Q4.out
  have hb : Below w4.heap.size w4 V5 := by rw [← hV5]; exact (Below.refl _ w4).alloc (Nat.le_refl _) _
  have MS5 := Lib.hid (MS4.out.below hb)
  have Z5 := Lib.hid (Z4.out.on hb)
  have K5 := Lib.hid (K4.out.trans (hb.mono K4.out.size))
  have X5 : Hid (V5.heap[w4.heap.size]? = some (.cells #[.int .i64 0, .int .i64 0, .int .i64 0, .int .i64 0, .int .i64 0, .int .i64 0, .int .i64 0, .int .i64 0, .int .i64 0, .int .i64 0, .int .i64 0, .int .i64 0, .int .i64 0, .int .i64 0, .slice none 0 0] 36)) := by rw [← hV5]; exact Tx.heap1 w4 _
  have lbV5 : w.heap.size ≤ w4.heap.size := K4.out.size
  clear hb Q4 K4 MS4 Z4
  have zaV5 : V5.heap.size = w4.heap.size + 1 := by rw [← hV5]; simp
  have Q6 : Hid ((V5.setRow w4.heap.size #[.int .i64 st, .int .i64 sh, .int .i64 sd, .int .i64 sp, .int .i64 eu, .int .i64 es, .int .i64 eh, .int .i64 ea, .int .i64 en, .int .i64 fu, .int .i64 fs, .int .i64 fh, .int .i64 fa, .int .i64 fn, .slice (some ⟨gx, 0, none⟩) n n]).heap[w.heap.size]? = some (.cells #[.int .i64 st, .int .i64 sh, .int .i64 sd, .int .i64 sp, .int .i64 eu, .int .i64 es, .int .i64 eh, .int .i64 ea, .int .i64 en, .int .i64 fu, .int .i64 fs, .int .i64 fh, .int .i64 fa, .int .i64 fn, .slice A n cap] 28)) := (setRow_other _ _ _ _ (by omega)).trans Q5.out
  have X6 : Hid ((V5.setRow w4.heap.size #[.int .i64 st, .int .i64 sh, .int .i64 sd, .int .i64 sp, .int .i64 eu, .int .i64 es, .int .i64 eh, .int .i64 ea, .int .i64 en, .int .i64 fu, .int .i64 fs, .int .i64 fh, .int .i64 fa, .int .i64 fn, .slice (some ⟨gx, 0, none⟩) n n]).heap[w4.heap.size]? = some (.cells #[.int .i64 st, .int .i64 sh, .int .i64 sd, .int .i64 sp, .int .i64 eu, .int .i64 es, .int .i64 eh, .int .i64 ea, .int .i64 en, .int .i64 fu, .int .i64 fs, .int .i64 fh, .int .i64 fa, .int .i64 fn, .slice (some ⟨gx, 0, none⟩) n n] 36)) := setRow_heap _ _ _ _ _ _ X5.out
  have K6 : Hid (Below w.heap.size w (V5.setRow w4.heap.size #[.int .i64 st, .int .i64 sh, .int .i64 sd, .int .i64 sp, .int .i64 eu, .int .i64 es, .int .i64 eh, .int .i64 ea, .int .i64 en, .int .i64 fu, .int .i64 fs, .int .i64 fh, .int .i64 fa, .int .i64 fn, .slice (some ⟨gx, 0, none⟩) n n])) := below_setRow K5.out (by omega) _
  have MS6 : Hid (Tx.MadeE (V5.setRow w4.heap.size #[.int .i64 st, .int .i64 sh, .int .i64 sd, .int .i64 sp, .int .i64 eu, .int .i64 es, .int .i64 eh, .int .i64 ea, .int .i64 en, .int .i64 fu, .int .i64 fs, .int .i64 fh, .int .i64 fa, .int .i64 fn, .slice (some ⟨gx, 0, none⟩) n n]) w.heap.size 9 ss ga ca) := MS5.out.heap (setRow_other _ _ _ _ (show ga ≠ w4.heap.size by omega))
  have Z6 : Hid (Tx.CopyE (V5.setRow w4.heap.size #[.int .i64 st, .int .i64 sh, .int .i64 sd, .int .i64 sp, .int .i64 eu, .int .i64 es, .int .i64 eh, .int .i64 ea, .int .i64 en, .int .i64 fu, .int .i64 fs, .int .i64 fh, .int .i64 fa, .int .i64 fn, .slice (some ⟨gx, 0, none⟩) n n]) gx n l) := Z5.out.heap (setRow_other _ _ _ _ (show gx ≠ w4.heap.size by omega)) (Nat.le_of_eq (size_setRow _ _ _).symm)
  clear MS5 Z5
  have zz6 := size_setRow V5 (w4.heap.size) #[.int .i64 st, .int .i64 sh, .int .i64 sd, .int .i64 sp, .int .i64 eu, .int .i64 es, .int .i64 eh, .int .i64 ea, .int .i64 en, .int .i64 fu, .int .i64 fs, .int .i64 fh, .int .i64 fa, .int .i64 fn, .slice (some ⟨gx, 0, none⟩) n n]
  go_wp2_with (first | (refine wpList_store_row rfl 36 _ _ rfl (w4.heap.size) #[.int .i64 st, .int .i64 sh, .int .i64 sd, .int .i64 sp, .int .i64 eu, .int .i64 es, .int .i64 eh, .int .i64 ea, .int .i64 en, .int .i64 fu, .int .i64 fs, .int .i64 fh, .int .i64 fa, .int .i64 fn, .slice (some ⟨gx, 0, none⟩) n n] rfl rfl 36 _ X5.out (by kernel_rfl) rfl (by simp [Value.oneCell']) ?_) | (refine wpList_load_row rfl 36 _ rfl (w4.heap.size) rfl 36 _ (0, 0) _ X6.out Try.underlying36 rfl (by kernel_rfl) ?_))
  clear hV5 Q5 X5 K5
  generalize V5.setRow w4.heap.size #[.int .i64 st, .int .i64 sh, .int .i64 sd, .int .i64 sp, .int .i64 eu, .int .i64 es, .int .i64 eh, .int .i64 ea, .int .i64 en, .int .i64 fu, .int .i64 fs, .int .i64 fh, .int .i64 fa, .int .i64 fn, .slice (some ⟨gx, 0, none⟩) n n] = S6 at Q6 X6 MS6 Z6 K6 zz6 ⊢
  have hkMI := K6.out.size
  refine (cI.out _ _ (Z6.out.elts hln)).mono ?_
  rintro e w7 ⟨gi, ci, rfl, hmMI, hb⟩
  have hgMI := hmMI.base
  have hsz5 := hb.size
  have Q7 := Lib.hid (Tx.blk_on hb Q6.out)
  have X7 := Lib.hid (Tx.blk_on hb X6.out)
  have MS7 := Lib.hid (MS6.out.below hb)
  have Z7 := Lib.hid (Z6.out.on hb)
  have K7 := Lib.hid (K6.out.trans (hb.mono K6.out.size))
  clear hb Q6 X6 K6 MS6 Z6
  have MI7 := Lib.hid (hmMI.mono hkMI)
  clear hmMI hkMI
  go_wp2_with fail
  have cq := Tx.eqStrs_same (ca := ci) (cb := ca) (by have h9 := MI7.out.elts; rw [hss] at h9; exact h9) (by have h9 := MS7.out.elts; rw [hss] at h9; exact h9) hn
  refine (cq).mono ?_
  rintro e w8 ⟨rfl, hb⟩
  clear cq
  have hsz6 := hb.size
  have Q8 := Lib.hid (Tx.blk_on hb Q7.out)
  have X8 := Lib.hid (Tx.blk_on hb X7.out)
  have MS8 := Lib.hid (MS7.out.below hb)
  have Z8 := Lib.hid (Z7.out.on hb)
  have MI8 := Lib.hid (MI7.out.below hb)
  have K8 := Lib.hid (K7.out.trans (hb.mono K7.out.size))
  clear hb Q7 X7 K7 MS7 Z7 MI7
  go_wp2
  refine Tx.wp_region_own (W := w8) [] (fun _ => True) Tx.stays_true trivial [0, 0, 1, 1, 0] (by kernel_rfl) (by kernel_rfl) (by kernel_rfl) ?_
  have rX : Hid (∀ q : Tx.In (Tx.plainEnv w8 []), q.w.heap[w4.heap.size]? = some (.cells #[.int .i64 st, .int .i64 sh, .int .i64 sd, .int .i64 sp, .int .i64 eu, .int .i64 es, .int .i64 eh, .int .i64 ea, .int .i64 en, .int .i64 fu, .int .i64 fs, .int .i64 fh, .int .i64 fa, .int .i64 fn, .slice (some ⟨gx, 0, none⟩) n n] 36)) := fun q => q.block X8.out (by simp)
  have rQ : Hid (∀ q : Tx.In (Tx.plainEnv w8 []), q.w.heap[w.heap.size]? = some (.cells #[.int .i64 st, .int .i64 sh, .int .i64 sd, .int .i64 sp, .int .i64 eu, .int .i64 es, .int .i64 eh, .int .i64 ea, .int .i64 en, .int .i64 fu, .int .i64 fs, .int .i64 fh, .int .i64 fa, .int .i64 fn, .slice A n cap] 28)) := fun q => q.block Q8.out (by simp)
  refine Tx.wpO_load_row rfl 36 _ rfl (w4.heap.size) rfl 36 _ (0, 0) _ rX.out Try.underlying36 rfl (by kernel_rfl) ?_
  simp only [Act.put, List.setIfInBounds_toArray, List.set_cons_succ, List.set_cons_zero]
  refine Tx.wpO_load_row rfl 28 _ rfl (w.heap.size) rfl 28 _ (0, 0) _ rQ.out Try.underlying28 rfl (by kernel_rfl) ?_
  simp only [Act.put, List.setIfInBounds_toArray, List.set_cons_succ, List.set_cons_zero]
  refine Tx.wpO_callx (f := 9) (args := #[.agg #[.int .i64 st, .int .i64 sh, .int .i64 sd, .int .i64 sp, .int .i64 eu, .int .i64 es, .int .i64 eh, .int .i64 ea, .int .i64 en, .int .i64 fu, .int .i64 fs, .int .i64 fh, .int .i64 fa, .int .i64 fn, .slice A n cap]]) (α := Nat) (fun g => .agg #[.int .i64 st, .int .i64 sh, .int .i64 sd, .int .i64 sp, .int .i64 eu, .int .i64 es, .int .i64 eh, .int .i64 ea, .int .i64 en, .int .i64 fu, .int .i64 fs, .int .i64 fh, .int .i64 fa, .int .i64 fn, .slice (some ⟨g, 0, none⟩) n n]) (fun g => [g]) (fun g w' => Tx.CopyE w' g n l) rfl (fun w' => by simp [go_sem]) (fun g w1 w2 hw h b => h.on b) (fun G => ?_) (fun w' hw hF => ?_) (fun gy hgy => ?_)
  · obtain ⟨g, hg, hn'⟩ := Tx.fresh_above w8.heap.size G
    exact ⟨g, fun k hk => by simp at hk; subst hk; exact ⟨hg, hn'⟩⟩
  · have kb := Tx.kept_below hw
    have kk := kb.size
    exact (Tx.toSeat_any ⟨st, sh, sd, sp, ⟨⟨eu, es, eh, ea⟩, en⟩, ⟨⟨fu, fs, fh, fa⟩, fn⟩⟩ A n cap l w' ((E.out.below (K8.out.trans (kb.mono K8.out.size))).mono (Nat.le_trans K8.out.size kb.size)) hn).mono fun e w'' ⟨g, he, h1, m, b1⟩ => ⟨g, he, m, b1, fun k hk => by simp at hk; subst hk; exact ⟨by omega, m.lies.1⟩⟩
  simp only [Act.put, List.setIfInBounds_toArray, List.set_cons_succ, List.set_cons_zero]
  refine Tx.wpO_call (f := 11) (args := #[.agg #[.int .i64 st, .int .i64 sh, .int .i64 sd, .int .i64 sp, .int .i64 eu, .int .i64 es, .int .i64 eh, .int .i64 ea, .int .i64 en, .int .i64 fu, .int .i64 fs, .int .i64 fh, .int .i64 fa, .int .i64 fn, .slice (some ⟨gx, 0, none⟩) n n], .agg #[.int .i64 st, .int .i64 sh, .int .i64 sd, .int .i64 sp, .int .i64 eu, .int .i64 es, .int .i64 eh, .int .i64 ea, .int .i64 en, .int .i64 fu, .int .i64 fs, .int .i64 fh, .int .i64 fa, .int .i64 fn, .slice (some ⟨gy, 0, none⟩) n n]]) (.bool true) rfl (fun w' => by simp [go_sem]) (fun w' hC hF => Tx.eqSeat_same ⟨st, sh, sd, sp, ⟨⟨eu, es, eh, ea⟩, en⟩, ⟨⟨fu, fs, fh, fa⟩, fn⟩⟩ _ _ n n n l w' ((Z8.out.on (Tx.kept_below hC)).elts hln) (hF.2.elts hln) hn) ?_
  simp only [Act.put, List.setIfInBounds_toArray, List.set_cons_succ, List.set_cons_zero]
  refine Tx.wpO_quiet 1 rfl (by kernel_rfl) ?_
  simp only [List.take, List.drop]
  repeat (go_big_quiet_step (fail))
  refine wpQuiet_nil ?_
  clear hgy
  refine Tx.wpO_nil ?_
  rintro w9 hb' _
  have hb := Tx.kept_below hb'
  have hsz7 := hb.size
  have Q9 := Lib.hid (Tx.blk_on hb Q8.out)
  have X9 := Lib.hid (Tx.blk_on hb X8.out)
  have MS9 := Lib.hid (MS8.out.below hb)
  have Z9 := Lib.hid (Z8.out.on hb)
  have MI9 := Lib.hid (MI8.out.below hb)
  have K9 := Lib.hid (K8.out.trans (hb.mono K8.out.size))
  clear rX rQ hb hb' Q8 X8 K8 MS8 Z8 MI8
  go_wp2_with (refine wpList_load_row rfl 36 _ rfl (w4.heap.size) rfl 36 _ (0, 0) _ X9.out Try.underlying36 rfl (by kernel_rfl) ?_)
  have cm := Tx.markSeat_any ⟨st, sh, sd, sp, ⟨⟨eu, es, eh, ea⟩, en⟩, ⟨⟨fu, fs, fh, fa⟩, fn⟩⟩ gx n n 1 (by omega) _ Z9.out.lies.1 Z9.out.room
  refine cm.mono ?_
  rintro e wm ⟨rfl, hF, gr⟩
  have hsg := gr.size
  clear hF cm
  clear Z9
  have Q10 : Hid (wm.heap[w.heap.size]? = some (.cells #[.int .i64 st, .int .i64 sh, .int .i64 sd, .int .i64 sp, .int .i64 eu, .int .i64 es, .int .i64 eh, .int .i64 ea, .int .i64 en, .int .i64 fu, .int .i64 fs, .int .i64 fh, .int .i64 fa, .int .i64 fn, .slice A n cap] 28)) := Tx.blk_off gr Q9.out (show w.heap.size ≠ gx by omega)
  have X10 : Hid (wm.heap[w4.heap.size]? = some (.cells #[.int .i64 st, .int .i64 sh, .int .i64 sd, .int .i64 sp, .int .i64 eu, .int .i64 es, .int .i64 eh, .int .i64 ea, .int .i64 en, .int .i64 fu, .int .i64 fs, .int .i64 fh, .int .i64 fa, .int .i64 fn, .slice (some ⟨gx, 0, none⟩) n n] 36)) := Tx.blk_off gr X9.out (show w4.heap.size ≠ gx by omega)
  have MS10 : Hid (Tx.MadeE wm w.heap.size 9 ss ga ca) := MS9.out.kept gr (by intro e; have e1 := Option.some.inj e; omega)
  have MI10 : Hid (Tx.MadeE wm w.heap.size 9 ss gi ci) := MI9.out.kept gr (by intro e; have e1 := Option.some.inj e; omega)
  have K10 : Hid (Below w.heap.size w wm) := Tx.below_off K9.out gr (by omega)
  clear Q9 X9 MS9 MI9 K9
  clear gr
  obtain ⟨m1, hm1⟩ : ∃ m, 1 + n * 2 = m := ⟨_, rfl⟩
  rw [hm1]
  have hm0 : ¬ (m1 : Int) < 0 := by omega
  clear hm1
  go_wp2_with fail
  have cq := Tx.eqStrs_same (ca := ci) (cb := ca) (by have h9 := MI10.out.elts; rw [hss] at h9; exact h9) (by have h9 := MS10.out.elts; rw [hss] at h9; exact h9) hn
  refine (cq).mono ?_
  rintro e w21 ⟨rfl, hb⟩
  clear cq
  have hsz8 := hb.size
  have Q11 := Lib.hid (Tx.blk_on hb Q10.out)
  have X11 := Lib.hid (Tx.blk_on hb X10.out)
  have MS11 := Lib.hid (MS10.out.below hb)
  have MI11 := Lib.hid (MI10.out.below hb)
  have K11 := Lib.hid (K10.out.trans (hb.mono K10.out.size))
  clear hb Q10 X10 K10 MS10 MI10
  go_wp2_with fail
  have cm := Tx.markStringS_any gi n ci 1 (by omega) _ (by have h9 : Tx.There _ gi 0 (ss.length * 1) := MI11.out.there; rw [hss, Nat.mul_one] at h9; exact h9)
  refine cm.mono ?_
  rintro e wn ⟨rfl, hF, gr⟩
  have hsg2 := gr.size
  clear cm
  clear MI11
  have Q12 : Hid (wn.heap[w.heap.size]? = some (.cells #[.int .i64 st, .int .i64 sh, .int .i64 sd, .int .i64 sp, .int .i64 eu, .int .i64 es, .int .i64 eh, .int .i64 ea, .int .i64 en, .int .i64 fu, .int .i64 fs, .int .i64 fh, .int .i64 fa, .int .i64 fn, .slice A n cap] 28)) := Tx.blk_off gr Q11.out (show w.heap.size ≠ gi by omega)
  have X12 : Hid (wn.heap[w4.heap.size]? = some (.cells #[.int .i64 st, .int .i64 sh, .int .i64 sd, .int .i64 sp, .int .i64 eu, .int .i64 es, .int .i64 eh, .int .i64 ea, .int .i64 en, .int .i64 fu, .int .i64 fs, .int .i64 fh, .int .i64 fa, .int .i64 fn, .slice (some ⟨gx, 0, none⟩) n n] 36)) := Tx.blk_off gr X11.out (show w4.heap.size ≠ gi by omega)
  have MS12 : Hid (Tx.MadeE wn w.heap.size 9 ss ga ca) := MS11.out.kept gr (by intro e; have e1 := Option.some.inj e; omega)
  have K12 : Hid (Below w.heap.size w wn) := Tx.below_off K11.out gr (by omega)
  clear Q11 X11 MS11 K11
  have F12 := Lib.hid hF
  clear hF gr
  obtain ⟨m2, hm2⟩ : ∃ m, 1 + n = m := ⟨_, rfl⟩
  rw [hm2]
  have hm3 : ¬ (m2 : Int) < 0 := by omega
  go_wp2_with fail
  have ch := Tx.heldStringS_any gi n ci 1 (by omega) _ F12.out
  rw [hm2] at ch
  refine (ch).mono ?_
  rintro e w31 ⟨rfl, hb⟩
  clear ch
  have hsz9 := hb.size
  have Q13 := Lib.hid (Tx.blk_on hb Q12.out)
  have X13 := Lib.hid (Tx.blk_on hb X12.out)
  have MS13 := Lib.hid (MS12.out.below hb)
  have F13 := Lib.hid (F12.out.on hb)
  have K13 := Lib.hid (K12.out.trans (hb.mono K12.out.size))
  clear hb Q12 X12 K12 MS12 F12
  have hmm : ((m2 : Int) != (m2 : Int)) = false := by simp
  go_wp2_with (refine wpList_load_row rfl 28 _ rfl (w.heap.size) rfl 28 _ (0, 0) _ Q13.out Try.underlying28 rfl (by kernel_rfl) ?_)
  refine (cT.out _ ((E.out.below K13.out).mono K13.out.size)).mono ?_
  rintro e w32 ⟨gz, rfl, hggz, hcgz, hb⟩
  have hsz10 := hb.size
  have Q14 := Lib.hid (Tx.blk_on hb Q13.out)
  have X14 := Lib.hid (Tx.blk_on hb X13.out)
  have MS14 := Lib.hid (MS13.out.below hb)
  have F14 := Lib.hid (F13.out.on hb)
  have K14 := Lib.hid (K13.out.trans (hb.mono K13.out.size))
  clear hb Q13 X13 K13 MS13 F13
  go_wp2_with fail
  have hkMJ := K14.out.size
  refine (cI.out _ _ (hcgz.elts hln)).mono ?_
  rintro e w33 ⟨gj, cj, rfl, hmMJ, hb⟩
  have hgMJ := hmMJ.base
  have hsz11 := hb.size
  have Q15 := Lib.hid (Tx.blk_on hb Q14.out)
  have X15 := Lib.hid (Tx.blk_on hb X14.out)
  have MS15 := Lib.hid (MS14.out.below hb)
  have F15 := Lib.hid (F14.out.on hb)
  have K15 := Lib.hid (K14.out.trans (hb.mono K14.out.size))
  clear hb Q14 X14 K14 MS14 F14
  have MJ15 := Lib.hid (hmMJ.mono hkMJ)
  clear hmMJ hkMJ
  clear hcgz
  go_wp2_with fail
  have cq := Tx.eqStrs_same (ca := cj) (cb := ca) (by have h9 := MJ15.out.elts; rw [hss] at h9; exact h9) (by have h9 := MS15.out.elts; rw [hss] at h9; exact h9) hn
  refine (cq).mono ?_
  rintro e w34 ⟨rfl, hb⟩
  clear cq
  have hsz12 := hb.size
  have Q16 := Lib.hid (Tx.blk_on hb Q15.out)
  have X16 := Lib.hid (Tx.blk_on hb X15.out)
  have MS16 := Lib.hid (MS15.out.below hb)
  have F16 := Lib.hid (F15.out.on hb)
  have MJ16 := Lib.hid (MJ15.out.below hb)
  have K16 := Lib.hid (K15.out.trans (hb.mono K15.out.size))
  clear hb Q15 X15 K15 MS15 F15 MJ15
  go_wp2_with fail
  have ch := Tx.heldStringS_any gi n ci 1 (by omega) _ F16.out
  rw [hm2] at ch
  refine (ch).mono ?_
  rintro e w35 ⟨rfl, hb⟩
  clear ch
  have hsz13 := hb.size
  have Q17 := Lib.hid (Tx.blk_on hb Q16.out)
  have X17 := Lib.hid (Tx.blk_on hb X16.out)
  have MS17 := Lib.hid (MS16.out.below hb)
  have F17 := Lib.hid (F16.out.on hb)
  have MJ17 := Lib.hid (MJ16.out.below hb)
  have K17 := Lib.hid (K16.out.trans (hb.mono K16.out.size))
  clear hb Q16 X16 K16 MS16 F16 MJ16
  go_wp2
  go_ret
  exact ⟨rfl, K17.out⟩

theorem own : ownKnob Try.prog.godebug = none := by kernel_rfl
theorem laidOut : laidOutB Try.prog = true := by kernel_rfl

set_option maxRecDepth 100000 in
theorem lifted (os : Os) (started : os.Started) (H : Type) (enc : TypeId × Value → H) :
    ReturnsInHanded {} Try.checked os 5 .any (Rows.fnExactLogOfSpec.pre6 enc Try.prog Try.f5 Rows.fnExactLogOfRow.domain false) (Rows.fnExactLogOfSpec.post enc Try.prog Try.f5 false true false false) := by
  refine returnsInHanded_of_change (C := Try.checked) own started (by kernel_rfl) Try.func5
    (ChangeSpec.witness6 (enc := enc) (C := Try.checked) false ⟨#[], #[.agg #[.int .i64 0, .int .i64 0, .int .i64 0, .int .i64 0, .int .i64 0, .int .i64 0, .int .i64 0, .int .i64 0, .int .i64 0, .int .i64 0, .int .i64 0, .int .i64 0, .int .i64 0, .int .i64 0, .slice none 0 0]], []⟩ 8 (by kernel_rfl) (by kernel_rfl) (by kernel_rfl) (by kernel_rfl)) ?_
  intro W base args ds gs before hval0 hW hcnd _
  have hval : ∀ (j : Nat) t v, Try.f5.params[j]? = some t → args[j]? = some v → Value.okWide Try.prog W .any base t v := hval0
  have hW' := hW
  obtain ⟨p, q, hA0, hV, rfl, hfz, hnd⟩ := hW
  have hA : DataW.TrodAll enc Try.prog W 0 (fun _ => true) true Try.f5.params.toList args.toList ds p := hA0
  rw [Try.params5] at hA hval
  obtain ⟨v0, vs0, d0, ds0, p0, q0, hargs, rfl, rfl, h0, r0⟩ := trodAll_cons hA
  obtain ⟨rfl, rfl, rfl⟩ := trodAll_nil r0
  obtain rfl : args = #[v0] := by cases args; simp_all
  obtain ⟨rfl, rfl⟩ := trodVars_none hV
  have k0 := h0
  have lt0 : ∀ x ∈ p0, x.block < W.heap.size := by obtain ⟨m, hm⟩ := k0; exact DataW.trod_lt m _ _ _ hm
  obtain ⟨s0, A0, n0, cp0, z0, rfl, w0⟩ := Tx.open_seat (hval 0 28 v0 rfl rfl) h0
  clear hA0 hval0
  refine (walk W s0 A0 n0 cp0 z0 w0.1 w0.2.1 w0.2.2).mono fun e W' ⟨he, bel⟩ => ?_
  subst he
  exact ⟨_, rfl, _, _, _, [], _, [], hW', trodAll_mk1 (shut_bool Try.underlying4 _), (trodAll_cons_mk (Below.trod laidOut (by kernel_rfl) (of_decide_eq_true (by kernel_rfl)) k0 bel lt0) trodAll_mk0), rfl, bel.frame _, fun h => by cases h⟩

theorem over : Rows.fnExactLogOfRow.holds Try.pinned (OpenSpec.ofChange Rows.fnExactLogOfSpec) :=
  OpenClaim.holds_of_wide 5 Try.f5 rfl rfl rfl rfl rfl rfl rfl ⟨rfl, rfl, rfl, rfl, rfl⟩ rfl rfl rfl rfl rfl (by kernel_rfl) Try.func5 (by kernel_rfl)
    (of_decide_eq_true (by kernel_rfl)) (by unfold Func.isWrapper; first | (rw [if_pos (by decide +kernel)]; kernel_rfl) | (rw [if_neg (by decide +kernel)]; exact ⟨rfl, rfl⟩))
    (fun os started H enc _ => lifted os started H enc)

end Go.Proofs.Ytchdmmlkgglmcaa.fnExactLogOf

namespace Go.Proofs.Ytchdmmlkgglmcaa
theorem fnExactLogOf_proved : Rows.FnExactLogOfSaid := fnExactLogOf.over
#print axioms fnExactLogOf_proved
end Go.Proofs.Ytchdmmlkgglmcaa

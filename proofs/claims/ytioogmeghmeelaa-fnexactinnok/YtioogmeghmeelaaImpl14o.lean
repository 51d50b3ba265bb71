/-
  What SeatOk of the program answers. No condition.
-/
import Derived.Test.YtioogmeghmeelaaImpl14s
import Derived.Test.YtioogmeghmeelaaImpl5a
import Derived.Test.YtioogmeghmeelaaSeat
namespace Go.Proofs.Ytioogmeghmeelaa.Tx
open Go.RowKit

set_option maxRecDepth 100000 in
set_option maxHeartbeats 16000000 in
theorem secret_any (s : SeatV) (A : Option Addr) (n cap : Nat) (w : World) : Calls Try.prog 49 #[s.val A n cap] w fun e w' => e = .returned (.int .i64 s.f.k.s) ∧ Below w.heap.size w w' := by
  obtain ⟨st, sh, sd, sp, ⟨⟨eu, es, eh, ea⟩, en⟩, ⟨⟨fu, fs, fh, fa⟩, fn⟩⟩ := s
  have HV : Hid (SeatV.val ⟨st, sh, sd, sp, ⟨⟨eu, es, eh, ea⟩, en⟩, ⟨⟨fu, fs, fh, fa⟩, fn⟩⟩ A n cap = .agg #[.int .i64 st, .int .i64 sh, .int .i64 sd, .int .i64 sp, .int .i64 eu, .int .i64 es, .int .i64 eh, .int .i64 ea, .int .i64 en, .int .i64 fu, .int .i64 fs, .int .i64 fh, .int .i64 fa, .int .i64 fn, .slice A n cap]) := rfl
  rw [HV.out]
  dsimp only
  clear HV
  obtain ⟨W0, hW0⟩ : ∃ W, w.alloc (.cells #[.int .i64 st, .int .i64 sh, .int .i64 sd, .int .i64 sp, .int .i64 eu, .int .i64 es, .int .i64 eh, .int .i64 ea, .int .i64 en, .int .i64 fu, .int .i64 fs, .int .i64 fh, .int .i64 fa, .int .i64 fn, .slice A n cap] 46) = W := ⟨_, rfl⟩
  have K0 : Hid (Below w.heap.size w W0) := by rw [← hW0]; exact (Below.refl _ w).alloc (Nat.le_refl _) _
  have S0 : Hid (W0.heap[w.heap.size]? = some (.cells #[.int .i64 st, .int .i64 sh, .int .i64 sd, .int .i64 sp, .int .i64 eu, .int .i64 es, .int .i64 eh, .int .i64 ea, .int .i64 en, .int .i64 fu, .int .i64 fs, .int .i64 fh, .int .i64 fa, .int .i64 fn, .slice A n cap] 46)) := by rw [← hW0]; exact heap1 w _
  go_enter Try.func49, Try.ntmps49
  obtain ⟨⟨a0, a1, a2, a3, a4, a5, a6, a7, a8, a9, a10, a11, a12, a13, a14⟩, _⟩ := blk15 S0.out
  go_wp2
  go_ret
  exact ⟨rfl, K0.out⟩

set_option maxRecDepth 100000 in
set_option maxHeartbeats 16000000 in
theorem rightState_any (s : SeatV) (A : Option Addr) (n cap : Nat) (w : World) : Calls Try.prog 33 #[s.val A n cap] w fun e w' => e = .returned (.bool (s.st == 1 || s.st == 2)) ∧ Below w.heap.size w w' := by
  obtain ⟨st, sh, sd, sp, ⟨⟨eu, es, eh, ea⟩, en⟩, ⟨⟨fu, fs, fh, fa⟩, fn⟩⟩ := s
  have HV : Hid (SeatV.val ⟨st, sh, sd, sp, ⟨⟨eu, es, eh, ea⟩, en⟩, ⟨⟨fu, fs, fh, fa⟩, fn⟩⟩ A n cap = .agg #[.int .i64 st, .int .i64 sh, .int .i64 sd, .int .i64 sp, .int .i64 eu, .int .i64 es, .int .i64 eh, .int .i64 ea, .int .i64 en, .int .i64 fu, .int .i64 fs, .int .i64 fh, .int .i64 fa, .int .i64 fn, .slice A n cap]) := rfl
  rw [HV.out]
  dsimp only
  clear HV
  obtain ⟨W0, hW0⟩ : ∃ W, w.alloc (.cells #[.int .i64 st, .int .i64 sh, .int .i64 sd, .int .i64 sp, .int .i64 eu, .int .i64 es, .int .i64 eh, .int .i64 ea, .int .i64 en, .int .i64 fu, .int .i64 fs, .int .i64 fh, .int .i64 fa, .int .i64 fn, .slice A n cap] 46) = W := ⟨_, rfl⟩
  have K0 : Hid (Below w.heap.size w W0) := by rw [← hW0]; exact (Below.refl _ w).alloc (Nat.le_refl _) _
  have S0 : Hid (W0.heap[w.heap.size]? = some (.cells #[.int .i64 st, .int .i64 sh, .int .i64 sd, .int .i64 sp, .int .i64 eu, .int .i64 es, .int .i64 eh, .int .i64 ea, .int .i64 en, .int .i64 fu, .int .i64 fs, .int .i64 fh, .int .i64 fa, .int .i64 fn, .slice A n cap] 46)) := by rw [← hW0]; exact heap1 w _
  go_enter Try.func33, Try.ntmps33
  obtain ⟨⟨a0, a1, a2, a3, a4, a5, a6, a7, a8, a9, a10, a11, a12, a13, a14⟩, _⟩ := blk15 S0.out
  cases h1 : st == 1
  ·
    go_wp2
    go_ret
    exact ⟨rfl, K0.out⟩
  ·
    go_wp2
    go_ret
    exact ⟨rfl, K0.out⟩

set_option maxRecDepth 100000 in
set_option maxHeartbeats 16000000 in
theorem rightSecret_any (s : SeatV) (A : Option Addr) (n cap : Nat) (w : World) : Calls Try.prog 35 #[s.val A n cap] w fun e w' => e = .returned (.bool (pkB s)) ∧ Below w.heap.size w w' := by
  obtain ⟨st, sh, sd, sp, ⟨⟨eu, es, eh, ea⟩, en⟩, ⟨⟨fu, fs, fh, fa⟩, fn⟩⟩ := s
  have HV : Hid (SeatV.val ⟨st, sh, sd, sp, ⟨⟨eu, es, eh, ea⟩, en⟩, ⟨⟨fu, fs, fh, fa⟩, fn⟩⟩ A n cap = .agg #[.int .i64 st, .int .i64 sh, .int .i64 sd, .int .i64 sp, .int .i64 eu, .int .i64 es, .int .i64 eh, .int .i64 ea, .int .i64 en, .int .i64 fu, .int .i64 fs, .int .i64 fh, .int .i64 fa, .int .i64 fn, .slice A n cap]) := rfl
  rw [HV.out]
  have cX : Hid (∀ w' : World, Calls Try.prog 49 #[.agg #[.int .i64 st, .int .i64 sh, .int .i64 sd, .int .i64 sp, .int .i64 eu, .int .i64 es, .int .i64 eh, .int .i64 ea, .int .i64 en, .int .i64 fu, .int .i64 fs, .int .i64 fh, .int .i64 fa, .int .i64 fn, .slice A n cap]] w' fun e w'' => e = .returned (.int .i64 fs) ∧ Below w'.heap.size w' w'') := fun w' => by exact secret_any ⟨st, sh, sd, sp, ⟨⟨eu, es, eh, ea⟩, en⟩, ⟨⟨fu, fs, fh, fa⟩, fn⟩⟩ A n cap w'
  clear HV
  unfold pkB
  dsimp only
  obtain ⟨W0, hW0⟩ : ∃ W, w.alloc (.cells #[.int .i64 st, .int .i64 sh, .int .i64 sd, .int .i64 sp, .int .i64 eu, .int .i64 es, .int .i64 eh, .int .i64 ea, .int .i64 en, .int .i64 fu, .int .i64 fs, .int .i64 fh, .int .i64 fa, .int .i64 fn, .slice A n cap] 46) = W := ⟨_, rfl⟩
  have K0 : Hid (Below w.heap.size w W0) := by rw [← hW0]; exact (Below.refl _ w).alloc (Nat.le_refl _) _
  have S0 : Hid (W0.heap[w.heap.size]? = some (.cells #[.int .i64 st, .int .i64 sh, .int .i64 sd, .int .i64 sp, .int .i64 eu, .int .i64 es, .int .i64 eh, .int .i64 ea, .int .i64 en, .int .i64 fu, .int .i64 fs, .int .i64 fh, .int .i64 fa, .int .i64 fn, .slice A n cap] 46)) := by rw [← hW0]; exact heap1 w _
  go_enter Try.func35, Try.ntmps35
  obtain ⟨⟨a0, a1, a2, a3, a4, a5, a6, a7, a8, a9, a10, a11, a12, a13, a14⟩, _⟩ := blk15 S0.out
  by_cases h1 : sp = 1
  ·
    have h1q : (sp == 1) = true := beq_int h1
    rw [h1q]
    clear h1
    go_wp2_with (refine wpList_load_row rfl 46 _ rfl (w.heap.size) rfl 46 _ (0, 0) _ S0.out Try.underlying46 rfl (by kernel_rfl) ?_)
    refine (cX.out _).mono ?_
    rintro e w1 ⟨rfl, hb⟩
    have S1 := Lib.hid (blk_on hb S0.out)
    have K1 := Lib.hid (K0.out.trans (hb.mono K0.out.size))
    clear hb S0 K0
    go_wp2
    go_ret
    exact ⟨rfl, K1.out⟩
  ·
    have h1q : (sp == 1) = false := bne_int h1
    rw [h1q]
    clear h1
    by_cases h2 : sp = 2
    ·
      have h2q : (sp == 2) = true := beq_int h2
      rw [h2q]
      clear h2
      go_wp2_with (refine wpList_load_row rfl 46 _ rfl (w.heap.size) rfl 46 _ (0, 0) _ S0.out Try.underlying46 rfl (by kernel_rfl) ?_)
      refine (cX.out _).mono ?_
      rintro e w1 ⟨rfl, hb⟩
      have S1 := Lib.hid (blk_on hb S0.out)
      have K1 := Lib.hid (K0.out.trans (hb.mono K0.out.size))
      clear hb S0 K0
      go_wp2
      go_ret
      exact ⟨rfl, K1.out⟩
    ·
      have h2q : (sp == 2) = false := bne_int h2
      rw [h2q]
      clear h2
      by_cases h3 : sp = 3
      ·
        have h3q : (sp == 3) = true := beq_int h3
        rw [h3q]
        clear h3
        go_wp2_with (refine wpList_load_row rfl 46 _ rfl (w.heap.size) rfl 46 _ (0, 0) _ S0.out Try.underlying46 rfl (by kernel_rfl) ?_)
        refine (cX.out _).mono ?_
        rintro e w1 ⟨rfl, hb⟩
        have S1 := Lib.hid (blk_on hb S0.out)
        have K1 := Lib.hid (K0.out.trans (hb.mono K0.out.size))
        clear hb S0 K0
        go_wp2
        go_ret
        exact ⟨rfl, K1.out⟩
      ·
        have h3q : (sp == 3) = false := bne_int h3
        rw [h3q]
        clear h3
        go_wp2
        go_ret
        exact ⟨rfl, K0.out⟩

set_option maxRecDepth 100000 in
set_option maxHeartbeats 16000000 in
theorem rightForth_any (s : SeatV) (A : Option Addr) (n cap : Nat) (w : World) : Calls Try.prog 36 #[s.val A n cap] w fun e w' => e = .returned (.bool (fthB s)) ∧ Below w.heap.size w w' := by
  obtain ⟨st, sh, sd, sp, ⟨⟨eu, es, eh, ea⟩, en⟩, ⟨⟨fu, fs, fh, fa⟩, fn⟩⟩ := s
  have HV : Hid (SeatV.val ⟨st, sh, sd, sp, ⟨⟨eu, es, eh, ea⟩, en⟩, ⟨⟨fu, fs, fh, fa⟩, fn⟩⟩ A n cap = .agg #[.int .i64 st, .int .i64 sh, .int .i64 sd, .int .i64 sp, .int .i64 eu, .int .i64 es, .int .i64 eh, .int .i64 ea, .int .i64 en, .int .i64 fu, .int .i64 fs, .int .i64 fh, .int .i64 fa, .int .i64 fn, .slice A n cap]) := rfl
  rw [HV.out]
  have cX : Hid (∀ w' : World, Calls Try.prog 49 #[.agg #[.int .i64 st, .int .i64 sh, .int .i64 sd, .int .i64 sp, .int .i64 eu, .int .i64 es, .int .i64 eh, .int .i64 ea, .int .i64 en, .int .i64 fu, .int .i64 fs, .int .i64 fh, .int .i64 fa, .int .i64 fn, .slice A n cap]] w' fun e w'' => e = .returned (.int .i64 fs) ∧ Below w'.heap.size w' w'') := fun w' => by exact secret_any ⟨st, sh, sd, sp, ⟨⟨eu, es, eh, ea⟩, en⟩, ⟨⟨fu, fs, fh, fa⟩, fn⟩⟩ A n cap w'
  obtain ⟨⟨ku, ks, kh, ka⟩, hk⟩ : ∃ x, forthK fs sh sd = x := ⟨_, rfl⟩
  have cK' := fun w' => ForthKey_impl fs sh sd w'
  have e1 : rightK ⟨4, fs, sh, sd⟩ = forthK fs sh sd := rfl
  rw [e1, hk] at cK'
  have cK : Hid (∀ w' : World, Calls Try.prog 51 #[.int .i64 fs, .int .i64 sh, .int .i64 sd] w' fun e w'' => e = .returned (.agg #[.int .i64 ku, .int .i64 ks, .int .i64 kh, .int .i64 ka]) ∧ Below w'.heap.size w' w'') := fun w' => cK' w'
  have cR : Hid (∀ w' : World, Calls Try.prog 50 #[.agg #[.int .i64 fu, .int .i64 fs, .int .i64 fh, .int .i64 fa, .int .i64 fn]] w' fun e w'' => e = .returned (.bool (rowOkB ⟨⟨fu, fs, fh, fa⟩, fn⟩)) ∧ Below w'.heap.size w' w'') := fun w' => by exact RowOk_impl ⟨⟨fu, fs, fh, fa⟩, fn⟩ w'
  have HR : fthB ⟨st, sh, sd, sp, ⟨⟨eu, es, eh, ea⟩, en⟩, ⟨⟨fu, fs, fh, fa⟩, fn⟩⟩ = (rowOkB ⟨⟨fu, fs, fh, fa⟩, fn⟩ && KeyV.same ⟨fu, fs, fh, fa⟩ (forthK fs sh sd)) := rfl
  rw [hk] at HR
  rw [HR]
  clear HV HR cK' e1 hk
  generalize rowOkB ⟨⟨fu, fs, fh, fa⟩, fn⟩ = rr at cR ⊢
  obtain ⟨W0, hW0⟩ : ∃ W, w.alloc (.cells #[.int .i64 st, .int .i64 sh, .int .i64 sd, .int .i64 sp, .int .i64 eu, .int .i64 es, .int .i64 eh, .int .i64 ea, .int .i64 en, .int .i64 fu, .int .i64 fs, .int .i64 fh, .int .i64 fa, .int .i64 fn, .slice A n cap] 46) = W := ⟨_, rfl⟩
  have K0 : Hid (Below w.heap.size w W0) := by rw [← hW0]; exact (Below.refl _ w).alloc (Nat.le_refl _) _
  have S0 : Hid (W0.heap[w.heap.size]? = some (.cells #[.int .i64 st, .int .i64 sh, .int .i64 sd, .int .i64 sp, .int .i64 eu, .int .i64 es, .int .i64 eh, .int .i64 ea, .int .i64 en, .int .i64 fu, .int .i64 fs, .int .i64 fh, .int .i64 fa, .int .i64 fn, .slice A n cap] 46)) := by rw [← hW0]; exact heap1 w _
  go_enter Try.func36, Try.ntmps36
  go_wp2_with fail
  clear hW0
  cases rr with
  | false =>
    refine wp_region_own (W := W0) [] (fun _ => True) stays_true trivial [0, 0, 1, 0, 0, 0, 0, 0, 1, 0, 0, 0, 0, 1, 0, 0, 0] (by kernel_rfl) (by kernel_rfl) (by kernel_rfl) ?_
    have fS : ∀ q : In (plainEnv W0 []), _ := fun q => (blk15 (q.block S0.out (by simp))).1
    refine wpO_quiet 2 rfl (by kernel_rfl) ?_
    simp only [List.take, List.drop]
    repeat (go_big_quiet_step (fail))
    refine wpQuiet_nil ?_
    refine wpO_call (f := 50) (args := #[.agg #[.int .i64 fu, .int .i64 fs, .int .i64 fh, .int .i64 fa, .int .i64 fn]]) (.bool false) rfl (fun w' => by simp [go_sem]) (fun w' hC _ => cR.out w') ?_
    simp only [Act.put, List.setIfInBounds_toArray, List.set_cons_succ, List.set_cons_zero]
    refine wpO_quiet 5 rfl (by kernel_rfl) ?_
    simp only [List.take, List.drop]
    repeat (go_big_quiet_step (fail))
    refine wpQuiet_nil ?_
    refine wpO_skip rfl ?_
    simp only [Act.put, List.setIfInBounds_toArray, List.set_cons_succ, List.set_cons_zero]
    refine wpO_quiet 4 rfl (by kernel_rfl) ?_
    simp only [List.take, List.drop]
    repeat (go_big_quiet_step (fail))
    refine wpQuiet_nil ?_
    refine wpO_skip rfl ?_
    simp only [Act.put, List.setIfInBounds_toArray, List.set_cons_succ, List.set_cons_zero]
    refine wpO_quiet 3 rfl (by kernel_rfl) ?_
    simp only [List.take, List.drop]
    repeat (go_big_quiet_step (fail))
    refine wpQuiet_nil ?_
    refine wpO_nil ?_
    rintro w1 hb' _
    have hb := kept_below hb'
    have S1 := Lib.hid (blk_on hb S0.out)
    have K1 := Lib.hid (K0.out.trans (hb.mono K0.out.size))
    clear fS hb hb' S0 K0
    go_wp2
    go_ret
    exact ⟨rfl, K1.out⟩
  | true =>
    have hqe := eq_agg fu fs fh fa ku ks kh ka
    refine wp_region_own (W := W0) [] (fun _ => True) stays_true trivial [0, 0, 1, 0, 0, 0, 0, 0, 1, 0, 0, 0, 0, 1, 0, 0, 0] (by kernel_rfl) (by kernel_rfl) (by kernel_rfl) ?_
    have fS : ∀ q : In (plainEnv W0 []), _ := fun q => (blk15 (q.block S0.out (by simp))).1
    have rS : Hid (∀ q : In (plainEnv W0 []), q.w.heap[w.heap.size]? = some (.cells #[.int .i64 st, .int .i64 sh, .int .i64 sd, .int .i64 sp, .int .i64 eu, .int .i64 es, .int .i64 eh, .int .i64 ea, .int .i64 en, .int .i64 fu, .int .i64 fs, .int .i64 fh, .int .i64 fa, .int .i64 fn, .slice A n cap] 46)) := fun q => q.block S0.out (by simp)
    refine wpO_quiet 2 rfl (by kernel_rfl) ?_
    simp only [List.take, List.drop]
    repeat (go_big_quiet_step (fail))
    refine wpQuiet_nil ?_
    refine wpO_call (f := 50) (args := #[.agg #[.int .i64 fu, .int .i64 fs, .int .i64 fh, .int .i64 fa, .int .i64 fn]]) (.bool true) rfl (fun w' => by simp [go_sem]) (fun w' hC _ => cR.out w') ?_
    simp only [Act.put, List.setIfInBounds_toArray, List.set_cons_succ, List.set_cons_zero]
    refine wpO_quiet 4 rfl (by kernel_rfl) ?_
    simp only [List.take, List.drop]
    repeat (go_big_quiet_step (fail))
    refine wpQuiet_nil ?_
    refine wpO_load_row rfl 46 _ rfl (w.heap.size) rfl 46 _ (0, 0) _ rS.out Try.underlying46 rfl (by kernel_rfl) ?_
    simp only [Act.put, List.setIfInBounds_toArray, List.set_cons_succ, List.set_cons_zero]
    refine wpO_call (f := 49) (args := #[.agg #[.int .i64 st, .int .i64 sh, .int .i64 sd, .int .i64 sp, .int .i64 eu, .int .i64 es, .int .i64 eh, .int .i64 ea, .int .i64 en, .int .i64 fu, .int .i64 fs, .int .i64 fh, .int .i64 fa, .int .i64 fn, .slice A n cap]]) (.int .i64 fs) rfl (fun w' => by simp [go_sem]) (fun w' hC _ => cX.out w') ?_
    simp only [Act.put, List.setIfInBounds_toArray, List.set_cons_succ, List.set_cons_zero]
    refine wpO_quiet 4 rfl (by kernel_rfl) ?_
    simp only [List.take, List.drop]
    repeat (go_big_quiet_step (fail))
    refine wpQuiet_nil ?_
    refine wpO_call (f := 51) (args := #[.int .i64 fs, .int .i64 sh, .int .i64 sd]) (.agg #[.int .i64 ku, .int .i64 ks, .int .i64 kh, .int .i64 ka]) rfl (fun w' => by simp [go_sem]) (fun w' hC _ => cK.out w') ?_
    simp only [Act.put, List.setIfInBounds_toArray, List.set_cons_succ, List.set_cons_zero]
    refine wpO_quiet 3 rfl (by kernel_rfl) ?_
    simp only [List.take, List.drop]
    repeat (go_big_quiet_step (fail))
    refine wpQuiet_nil ?_
    refine wpO_nil ?_
    rintro w1 hb' _
    have hb := kept_below hb'
    have S1 := Lib.hid (blk_on hb S0.out)
    have K1 := Lib.hid (K0.out.trans (hb.mono K0.out.size))
    clear fS rS hb hb' S0 K0
    go_wp2
    go_ret
    exact ⟨rfl, K1.out⟩

set_option maxRecDepth 100000 in
set_option maxHeartbeats 16000000 in
theorem rightEarly_any (s : SeatV) (A : Option Addr) (n cap : Nat) (w : World) : Calls Try.prog 37 #[s.val A n cap] w fun e w' => e = .returned (.bool (erlB s)) ∧ Below w.heap.size w w' := by
  obtain ⟨st, sh, sd, sp, ⟨⟨eu, es, eh, ea⟩, en⟩, ⟨⟨fu, fs, fh, fa⟩, fn⟩⟩ := s
  have HV : Hid (SeatV.val ⟨st, sh, sd, sp, ⟨⟨eu, es, eh, ea⟩, en⟩, ⟨⟨fu, fs, fh, fa⟩, fn⟩⟩ A n cap = .agg #[.int .i64 st, .int .i64 sh, .int .i64 sd, .int .i64 sp, .int .i64 eu, .int .i64 es, .int .i64 eh, .int .i64 ea, .int .i64 en, .int .i64 fu, .int .i64 fs, .int .i64 fh, .int .i64 fa, .int .i64 fn, .slice A n cap]) := rfl
  rw [HV.out]
  have cX : Hid (∀ w' : World, Calls Try.prog 49 #[.agg #[.int .i64 st, .int .i64 sh, .int .i64 sd, .int .i64 sp, .int .i64 eu, .int .i64 es, .int .i64 eh, .int .i64 ea, .int .i64 en, .int .i64 fu, .int .i64 fs, .int .i64 fh, .int .i64 fa, .int .i64 fn, .slice A n cap]] w' fun e w'' => e = .returned (.int .i64 fs) ∧ Below w'.heap.size w' w'') := fun w' => by exact secret_any ⟨st, sh, sd, sp, ⟨⟨eu, es, eh, ea⟩, en⟩, ⟨⟨fu, fs, fh, fa⟩, fn⟩⟩ A n cap w'
  obtain ⟨⟨ku, ks, kh, ka⟩, hk⟩ : ∃ x, earlyK fs sh = x := ⟨_, rfl⟩
  have cK' := fun w' => EarlyKey_impl fs sh w'
  have e1 : rightK ⟨1, fs, sh, 0⟩ = earlyK fs sh := rfl
  rw [e1, hk] at cK'
  have cK : Hid (∀ w' : World, Calls Try.prog 52 #[.int .i64 fs, .int .i64 sh] w' fun e w'' => e = .returned (.agg #[.int .i64 ku, .int .i64 ks, .int .i64 kh, .int .i64 ka]) ∧ Below w'.heap.size w' w'') := fun w' => cK' w'
  have cR : Hid (∀ w' : World, Calls Try.prog 50 #[.agg #[.int .i64 eu, .int .i64 es, .int .i64 eh, .int .i64 ea, .int .i64 en]] w' fun e w'' => e = .returned (.bool (rowOkB ⟨⟨eu, es, eh, ea⟩, en⟩)) ∧ Below w'.heap.size w' w'') := fun w' => by exact RowOk_impl ⟨⟨eu, es, eh, ea⟩, en⟩ w'
  have HR : erlB ⟨st, sh, sd, sp, ⟨⟨eu, es, eh, ea⟩, en⟩, ⟨⟨fu, fs, fh, fa⟩, fn⟩⟩ = if st == 1 && sp == 3 then (rowOkB ⟨⟨eu, es, eh, ea⟩, en⟩ && KeyV.same ⟨eu, es, eh, ea⟩ (earlyK fs sh)) else RowV.isZ ⟨⟨eu, es, eh, ea⟩, en⟩ := rfl
  rw [hk] at HR
  rw [HR]
  clear HV HR cK' e1 hk
  generalize rowOkB ⟨⟨eu, es, eh, ea⟩, en⟩ = rr at cR ⊢
  obtain ⟨W0, hW0⟩ : ∃ W, w.alloc (.cells #[.int .i64 st, .int .i64 sh, .int .i64 sd, .int .i64 sp, .int .i64 eu, .int .i64 es, .int .i64 eh, .int .i64 ea, .int .i64 en, .int .i64 fu, .int .i64 fs, .int .i64 fh, .int .i64 fa, .int .i64 fn, .slice A n cap] 46) = W := ⟨_, rfl⟩
  have K0 : Hid (Below w.heap.size w W0) := by rw [← hW0]; exact (Below.refl _ w).alloc (Nat.le_refl _) _
  have S0 : Hid (W0.heap[w.heap.size]? = some (.cells #[.int .i64 st, .int .i64 sh, .int .i64 sd, .int .i64 sp, .int .i64 eu, .int .i64 es, .int .i64 eh, .int .i64 ea, .int .i64 en, .int .i64 fu, .int .i64 fs, .int .i64 fh, .int .i64 fa, .int .i64 fn, .slice A n cap] 46)) := by rw [← hW0]; exact heap1 w _
  go_enter Try.func37, Try.ntmps37
  obtain ⟨⟨a0, a1, a2, a3, a4, a5, a6, a7, a8, a9, a10, a11, a12, a13, a14⟩, _⟩ := blk15 S0.out
  by_cases hs : st = 1
  ·
    have hsq : (st == 1) = true := beq_int hs
    rw [hsq]
    clear hs
    by_cases hp : sp = 3
    ·
      have hpq : (sp == 3) = true := beq_int hp
      rw [hpq]
      clear hp
      simp only [Bool.and_true, if_true]
      go_wp2_with fail
      clear a0 a1 a2 a3 a4 a5 a6 a7 a8 a9 a10 a11 a12 a13 a14
      clear hW0
      cases rr with
      | false =>
        refine wp_region_own (W := W0) [] (fun _ => True) stays_true trivial [0, 0, 1, 0, 0, 0, 0, 0, 1, 0, 0, 1, 0, 0, 0] (by kernel_rfl) (by kernel_rfl) (by kernel_rfl) ?_
        have fS : ∀ q : In (plainEnv W0 []), _ := fun q => (blk15 (q.block S0.out (by simp))).1
        refine wpO_quiet 2 rfl (by kernel_rfl) ?_
        simp only [List.take, List.drop]
        repeat (go_big_quiet_step (fail))
        refine wpQuiet_nil ?_
        refine wpO_call (f := 50) (args := #[.agg #[.int .i64 eu, .int .i64 es, .int .i64 eh, .int .i64 ea, .int .i64 en]]) (.bool false) rfl (fun w' => by simp [go_sem]) (fun w' hC _ => cR.out w') ?_
        simp only [Act.put, List.setIfInBounds_toArray, List.set_cons_succ, List.set_cons_zero]
        refine wpO_quiet 5 rfl (by kernel_rfl) ?_
        simp only [List.take, List.drop]
        repeat (go_big_quiet_step (fail))
        refine wpQuiet_nil ?_
        refine wpO_skip rfl ?_
        simp only [Act.put, List.setIfInBounds_toArray, List.set_cons_succ, List.set_cons_zero]
        refine wpO_quiet 2 rfl (by kernel_rfl) ?_
        simp only [List.take, List.drop]
        repeat (go_big_quiet_step (fail))
        refine wpQuiet_nil ?_
        refine wpO_skip rfl ?_
        simp only [Act.put, List.setIfInBounds_toArray, List.set_cons_succ, List.set_cons_zero]
        refine wpO_quiet 3 rfl (by kernel_rfl) ?_
        simp only [List.take, List.drop]
        repeat (go_big_quiet_step (fail))
        refine wpQuiet_nil ?_
        refine wpO_nil ?_
        rintro w1 hb' _
        have hb := kept_below hb'
        have S1 := Lib.hid (blk_on hb S0.out)
        have K1 := Lib.hid (K0.out.trans (hb.mono K0.out.size))
        clear fS hb hb' S0 K0
        go_wp2
        go_ret
        exact ⟨rfl, K1.out⟩
      | true =>
        have hqe := eq_agg eu es eh ea ku ks kh ka
        refine wp_region_own (W := W0) [] (fun _ => True) stays_true trivial [0, 0, 1, 0, 0, 0, 0, 0, 1, 0, 0, 1, 0, 0, 0] (by kernel_rfl) (by kernel_rfl) (by kernel_rfl) ?_
        have fS : ∀ q : In (plainEnv W0 []), _ := fun q => (blk15 (q.block S0.out (by simp))).1
        have rS : Hid (∀ q : In (plainEnv W0 []), q.w.heap[w.heap.size]? = some (.cells #[.int .i64 st, .int .i64 sh, .int .i64 sd, .int .i64 sp, .int .i64 eu, .int .i64 es, .int .i64 eh, .int .i64 ea, .int .i64 en, .int .i64 fu, .int .i64 fs, .int .i64 fh, .int .i64 fa, .int .i64 fn, .slice A n cap] 46)) := fun q => q.block S0.out (by simp)
        refine wpO_quiet 2 rfl (by kernel_rfl) ?_
        simp only [List.take, List.drop]
        repeat (go_big_quiet_step (fail))
        refine wpQuiet_nil ?_
        refine wpO_call (f := 50) (args := #[.agg #[.int .i64 eu, .int .i64 es, .int .i64 eh, .int .i64 ea, .int .i64 en]]) (.bool true) rfl (fun w' => by simp [go_sem]) (fun w' hC _ => cR.out w') ?_
        simp only [Act.put, List.setIfInBounds_toArray, List.set_cons_succ, List.set_cons_zero]
        refine wpO_quiet 4 rfl (by kernel_rfl) ?_
        simp only [List.take, List.drop]
        repeat (go_big_quiet_step (fail))
        refine wpQuiet_nil ?_
        refine wpO_load_row rfl 46 _ rfl (w.heap.size) rfl 46 _ (0, 0) _ rS.out Try.underlying46 rfl (by kernel_rfl) ?_
        simp only [Act.put, List.setIfInBounds_toArray, List.set_cons_succ, List.set_cons_zero]
        refine wpO_call (f := 49) (args := #[.agg #[.int .i64 st, .int .i64 sh, .int .i64 sd, .int .i64 sp, .int .i64 eu, .int .i64 es, .int .i64 eh, .int .i64 ea, .int .i64 en, .int .i64 fu, .int .i64 fs, .int .i64 fh, .int .i64 fa, .int .i64 fn, .slice A n cap]]) (.int .i64 fs) rfl (fun w' => by simp [go_sem]) (fun w' hC _ => cX.out w') ?_
        simp only [Act.put, List.setIfInBounds_toArray, List.set_cons_succ, List.set_cons_zero]
        refine wpO_quiet 2 rfl (by kernel_rfl) ?_
        simp only [List.take, List.drop]
        repeat (go_big_quiet_step (fail))
        refine wpQuiet_nil ?_
        refine wpO_call (f := 52) (args := #[.int .i64 fs, .int .i64 sh]) (.agg #[.int .i64 ku, .int .i64 ks, .int .i64 kh, .int .i64 ka]) rfl (fun w' => by simp [go_sem]) (fun w' hC _ => cK.out w') ?_
        simp only [Act.put, List.setIfInBounds_toArray, List.set_cons_succ, List.set_cons_zero]
        refine wpO_quiet 3 rfl (by kernel_rfl) ?_
        simp only [List.take, List.drop]
        repeat (go_big_quiet_step (fail))
        refine wpQuiet_nil ?_
        refine wpO_nil ?_
        rintro w1 hb' _
        have hb := kept_below hb'
        have S1 := Lib.hid (blk_on hb S0.out)
        have K1 := Lib.hid (K0.out.trans (hb.mono K0.out.size))
        clear fS rS hb hb' S0 K0
        go_wp2
        go_ret
        exact ⟨rfl, K1.out⟩
    ·
      have hpq : (sp == 3) = false := bne_int hp
      rw [hpq]
      clear hp
      simp only [Bool.and_false, Bool.false_eq_true, if_false]
      have hz := eq_row_zero eu es eh ea en
      go_wp2
      go_ret
      exact ⟨rfl, K0.out⟩
  ·
    have hsq : (st == 1) = false := bne_int hs
    rw [hsq]
    clear hs
    simp only [Bool.false_and, Bool.false_eq_true, if_false]
    have hz := eq_row_zero eu es eh ea en
    go_wp2
    go_ret
    exact ⟨rfl, K0.out⟩

set_option maxRecDepth 100000 in
set_option maxHeartbeats 16000000 in
theorem SeatOk_impl0 (s : SeatV) (A : Option Addr) (n cap : Nat) (w : World) : Calls Try.prog 17 #[s.val A n cap] w fun e w' => e = .returned (.bool (seatOkB s n)) ∧ Below w.heap.size w w' := by
  obtain ⟨st, sh, sd, sp, ⟨⟨eu, es, eh, ea⟩, en⟩, ⟨⟨fu, fs, fh, fa⟩, fn⟩⟩ := s
  have HV : Hid (SeatV.val ⟨st, sh, sd, sp, ⟨⟨eu, es, eh, ea⟩, en⟩, ⟨⟨fu, fs, fh, fa⟩, fn⟩⟩ A n cap = .agg #[.int .i64 st, .int .i64 sh, .int .i64 sd, .int .i64 sp, .int .i64 eu, .int .i64 es, .int .i64 eh, .int .i64 ea, .int .i64 en, .int .i64 fu, .int .i64 fs, .int .i64 fh, .int .i64 fa, .int .i64 fn, .slice A n cap]) := rfl
  rw [HV.out]
  rw [seat_prog]
  have c0 : Hid (∀ w' : World, Calls Try.prog 33 #[.agg #[.int .i64 st, .int .i64 sh, .int .i64 sd, .int .i64 sp, .int .i64 eu, .int .i64 es, .int .i64 eh, .int .i64 ea, .int .i64 en, .int .i64 fu, .int .i64 fs, .int .i64 fh, .int .i64 fa, .int .i64 fn, .slice A n cap]] w' fun e w'' => e = .returned (.bool (st == 1 || st == 2)) ∧ Below w'.heap.size w' w'') := fun w' => by exact rightState_any ⟨st, sh, sd, sp, ⟨⟨eu, es, eh, ea⟩, en⟩, ⟨⟨fu, fs, fh, fa⟩, fn⟩⟩ A n cap w'
  have c1 : Hid (∀ w' : World, Calls Try.prog 34 #[.int .i64 sh] w' fun e w'' => e = .returned (.bool (isDrawB sh)) ∧ Below w'.heap.size w' w'') := fun w' => by exact IsDraw_impl sh w'
  have c2 : Hid (∀ w' : World, Calls Try.prog 34 #[.int .i64 sd] w' fun e w'' => e = .returned (.bool (isDrawB sd)) ∧ Below w'.heap.size w' w'') := fun w' => by exact IsDraw_impl sd w'
  have c3 : Hid (∀ w' : World, Calls Try.prog 35 #[.agg #[.int .i64 st, .int .i64 sh, .int .i64 sd, .int .i64 sp, .int .i64 eu, .int .i64 es, .int .i64 eh, .int .i64 ea, .int .i64 en, .int .i64 fu, .int .i64 fs, .int .i64 fh, .int .i64 fa, .int .i64 fn, .slice A n cap]] w' fun e w'' => e = .returned (.bool (pkB ⟨st, sh, sd, sp, ⟨⟨eu, es, eh, ea⟩, en⟩, ⟨⟨fu, fs, fh, fa⟩, fn⟩⟩)) ∧ Below w'.heap.size w' w'') := fun w' => by exact rightSecret_any ⟨st, sh, sd, sp, ⟨⟨eu, es, eh, ea⟩, en⟩, ⟨⟨fu, fs, fh, fa⟩, fn⟩⟩ A n cap w'
  have c4 : Hid (∀ w' : World, Calls Try.prog 36 #[.agg #[.int .i64 st, .int .i64 sh, .int .i64 sd, .int .i64 sp, .int .i64 eu, .int .i64 es, .int .i64 eh, .int .i64 ea, .int .i64 en, .int .i64 fu, .int .i64 fs, .int .i64 fh, .int .i64 fa, .int .i64 fn, .slice A n cap]] w' fun e w'' => e = .returned (.bool (fthB ⟨st, sh, sd, sp, ⟨⟨eu, es, eh, ea⟩, en⟩, ⟨⟨fu, fs, fh, fa⟩, fn⟩⟩)) ∧ Below w'.heap.size w' w'') := fun w' => by exact rightForth_any ⟨st, sh, sd, sp, ⟨⟨eu, es, eh, ea⟩, en⟩, ⟨⟨fu, fs, fh, fa⟩, fn⟩⟩ A n cap w'
  have c5 : Hid (∀ w' : World, Calls Try.prog 37 #[.agg #[.int .i64 st, .int .i64 sh, .int .i64 sd, .int .i64 sp, .int .i64 eu, .int .i64 es, .int .i64 eh, .int .i64 ea, .int .i64 en, .int .i64 fu, .int .i64 fs, .int .i64 fh, .int .i64 fa, .int .i64 fn, .slice A n cap]] w' fun e w'' => e = .returned (.bool (erlB ⟨st, sh, sd, sp, ⟨⟨eu, es, eh, ea⟩, en⟩, ⟨⟨fu, fs, fh, fa⟩, fn⟩⟩)) ∧ Below w'.heap.size w' w'') := fun w' => by exact rightEarly_any ⟨st, sh, sd, sp, ⟨⟨eu, es, eh, ea⟩, en⟩, ⟨⟨fu, fs, fh, fa⟩, fn⟩⟩ A n cap w'
  generalize pkB ⟨st, sh, sd, sp, ⟨⟨eu, es, eh, ea⟩, en⟩, ⟨⟨fu, fs, fh, fa⟩, fn⟩⟩ = z3 at c3 ⊢
  generalize fthB ⟨st, sh, sd, sp, ⟨⟨eu, es, eh, ea⟩, en⟩, ⟨⟨fu, fs, fh, fa⟩, fn⟩⟩ = z4 at c4 ⊢
  generalize erlB ⟨st, sh, sd, sp, ⟨⟨eu, es, eh, ea⟩, en⟩, ⟨⟨fu, fs, fh, fa⟩, fn⟩⟩ = z5 at c5 ⊢
  dsimp only
  generalize (st == 1 || st == 2) = z0 at c0 ⊢
  generalize isDrawB sh = z1 at c1 ⊢
  generalize isDrawB sd = z2 at c2 ⊢
  have hl : decide ((n : Int) ≤ 60) = decide (n ≤ 60) := by
    by_cases h6 : n ≤ 60
    · rw [decide_eq_true h6, decide_eq_true (by omega)]
    · rw [decide_eq_false h6, decide_eq_false (by omega)]
  generalize decide (n ≤ 60) = zn at hl ⊢
  clear HV
  obtain ⟨W0, hW0⟩ : ∃ W, w.alloc (.cells #[.int .i64 st, .int .i64 sh, .int .i64 sd, .int .i64 sp, .int .i64 eu, .int .i64 es, .int .i64 eh, .int .i64 ea, .int .i64 en, .int .i64 fu, .int .i64 fs, .int .i64 fh, .int .i64 fa, .int .i64 fn, .slice A n cap] 46) = W := ⟨_, rfl⟩
  have K0 : Hid (Below w.heap.size w W0) := by rw [← hW0]; exact (Below.refl _ w).alloc (Nat.le_refl _) _
  have S0 : Hid (W0.heap[w.heap.size]? = some (.cells #[.int .i64 st, .int .i64 sh, .int .i64 sd, .int .i64 sp, .int .i64 eu, .int .i64 es, .int .i64 eh, .int .i64 ea, .int .i64 en, .int .i64 fu, .int .i64 fs, .int .i64 fh, .int .i64 fa, .int .i64 fn, .slice A n cap] 46)) := by rw [← hW0]; exact heap1 w _
  go_enter Try.func17, Try.ntmps17
  go_wp2_with (refine wpList_load_row rfl 46 _ rfl (w.heap.size) rfl 46 _ (0, 0) _ S0.out Try.underlying46 rfl (by kernel_rfl) ?_)
  clear hW0
  refine (c0.out _).mono ?_
  rintro e w1 ⟨rfl, hb⟩
  have S1 := Lib.hid (blk_on hb S0.out)
  have K1 := Lib.hid (K0.out.trans (hb.mono K0.out.size))
  clear hb S0 K0
  cases z0 with
  | false =>
    go_wp2
    go_ret
    exact ⟨rfl, K1.out⟩
  | true =>
    obtain ⟨⟨a0, a1, a2, a3, a4, a5, a6, a7, a8, a9, a10, a11, a12, a13, a14⟩, _⟩ := blk15 S1.out
    go_wp2_with fail
    clear a0 a1 a2 a3 a4 a5 a6 a7 a8 a9 a10 a11 a12 a13 a14
    refine (c1.out _).mono ?_
    rintro e w2 ⟨rfl, hb⟩
    have S2 := Lib.hid (blk_on hb S1.out)
    have K2 := Lib.hid (K1.out.trans (hb.mono K1.out.size))
    clear hb S1 K1
    cases z1 with
    | false =>
      go_wp2
      go_ret
      exact ⟨rfl, K2.out⟩
    | true =>
      obtain ⟨⟨a0, a1, a2, a3, a4, a5, a6, a7, a8, a9, a10, a11, a12, a13, a14⟩, _⟩ := blk15 S2.out
      go_wp2_with fail
      clear a0 a1 a2 a3 a4 a5 a6 a7 a8 a9 a10 a11 a12 a13 a14
      refine (c2.out _).mono ?_
      rintro e w3 ⟨rfl, hb⟩
      have S3 := Lib.hid (blk_on hb S2.out)
      have K3 := Lib.hid (K2.out.trans (hb.mono K2.out.size))
      clear hb S2 K2
      cases z2 with
      | false =>
        go_wp2
        go_ret
        exact ⟨rfl, K3.out⟩
      | true =>
        go_wp2_with (refine wpList_load_wanted rfl 46 _ rfl (w.heap.size) rfl 46 _ (0, 0) _ S3.out Try.underlying46 rfl (by kernel_rfl) ?_)
        refine (c3.out _).mono ?_
        rintro e w4 ⟨rfl, hb⟩
        have S4 := Lib.hid (blk_on hb S3.out)
        have K4 := Lib.hid (K3.out.trans (hb.mono K3.out.size))
        clear hb S3 K3
        cases z3 with
        | false =>
          go_wp2
          go_ret
          exact ⟨rfl, K4.out⟩
        | true =>
          go_wp2_with (refine wpList_load_wanted rfl 46 _ rfl (w.heap.size) rfl 46 _ (0, 0) _ S4.out Try.underlying46 rfl (by kernel_rfl) ?_)
          refine (c4.out _).mono ?_
          rintro e w5 ⟨rfl, hb⟩
          have S5 := Lib.hid (blk_on hb S4.out)
          have K5 := Lib.hid (K4.out.trans (hb.mono K4.out.size))
          clear hb S4 K4
          cases z4 with
          | false =>
            go_wp2
            go_ret
            exact ⟨rfl, K5.out⟩
          | true =>
            go_wp2_with (refine wpList_load_wanted rfl 46 _ rfl (w.heap.size) rfl 46 _ (0, 0) _ S5.out Try.underlying46 rfl (by kernel_rfl) ?_)
            refine (c5.out _).mono ?_
            rintro e w6 ⟨rfl, hb⟩
            have S6 := Lib.hid (blk_on hb S5.out)
            have K6 := Lib.hid (K5.out.trans (hb.mono K5.out.size))
            clear hb S5 K5
            cases z5 with
            | false =>
              go_wp2
              go_ret
              exact ⟨rfl, K6.out⟩
            | true =>
              obtain ⟨⟨a0, a1, a2, a3, a4, a5, a6, a7, a8, a9, a10, a11, a12, a13, a14⟩, _⟩ := blk15 S6.out
              go_wp2
              go_ret
              exact ⟨by simp, K6.out⟩
theorem SeatOk_impl (s : SeatV) (A : Option Addr) (n cap : Nat) (l : List WordV) (w : World) (_ : EltsO w w.heap.size A n l) (_ : n ≤ 1048576) : Calls Try.prog 17 #[s.val A n cap] w fun e w' => e = .returned (.bool (seatOkB s n)) ∧ Below w.heap.size w w' := SeatOk_impl0 s A n cap w

end Go.Proofs.Ytioogmeghmeelaa.Tx

/-
  What SeatOk, NewSeat, LogOf and EarlyIn of the program answer. Condition: at most 1048576 words.
-/
import Derived.Test.YtchdmmlkgglmcaaDoorImpl14s
import Derived.Test.YtchdmmlkgglmcaaDoorImpl5a
import Derived.Test.YtchdmmlkgglmcaaDoorSeat
import Derived.Test.YtchdmmlkgglmcaaDoorSeat4
import Derived.Test.YtchdmmlkgglmcaaDoorHears
namespace Go.Proofs.YtchdmmlkgglmcaaDoor.Tx
open Go.RowKit

set_option maxRecDepth 100000 in
set_option maxHeartbeats 16000000 in
theorem secret_any (s : SeatV) (A : Option Addr) (n cap : Nat) (w : World) : Calls Tryd.prog 82 #[s.val A n cap] w fun e w' => e = .returned (.int .i64 s.f.k.s) ∧ Below w.heap.size w w' := by
  obtain ⟨st, sh, sd, sp, ⟨⟨eu, es, eh, ea⟩, en⟩, ⟨⟨fu, fs, fh, fa⟩, fn⟩⟩ := s
  have HV : Hid (SeatV.val ⟨st, sh, sd, sp, ⟨⟨eu, es, eh, ea⟩, en⟩, ⟨⟨fu, fs, fh, fa⟩, fn⟩⟩ A n cap = .agg #[.int .i64 st, .int .i64 sh, .int .i64 sd, .int .i64 sp, .int .i64 eu, .int .i64 es, .int .i64 eh, .int .i64 ea, .int .i64 en, .int .i64 fu, .int .i64 fs, .int .i64 fh, .int .i64 fa, .int .i64 fn, .slice A n cap]) := rfl
  rw [HV.out]
  dsimp only
  clear HV
  obtain ⟨W0, hW0⟩ : ∃ W, w.alloc (.cells #[.int .i64 st, .int .i64 sh, .int .i64 sd, .int .i64 sp, .int .i64 eu, .int .i64 es, .int .i64 eh, .int .i64 ea, .int .i64 en, .int .i64 fu, .int .i64 fs, .int .i64 fh, .int .i64 fa, .int .i64 fn, .slice A n cap] 32) = W := ⟨_, rfl⟩
  have K0 : Hid (Below w.heap.size w W0) := by rw [← hW0]; exact (Below.refl _ w).alloc (Nat.le_refl _) _
  have S0 : Hid (W0.heap[w.heap.size]? = some (.cells #[.int .i64 st, .int .i64 sh, .int .i64 sd, .int .i64 sp, .int .i64 eu, .int .i64 es, .int .i64 eh, .int .i64 ea, .int .i64 en, .int .i64 fu, .int .i64 fs, .int .i64 fh, .int .i64 fa, .int .i64 fn, .slice A n cap] 32)) := by rw [← hW0]; exact heap1 w _
  go_enter Tryd.func82, Tryd.ntmps82
  obtain ⟨⟨a0, a1, a2, a3, a4, a5, a6, a7, a8, a9, a10, a11, a12, a13, a14⟩, _⟩ := blk15 S0.out
  go_wp2
  go_ret
  exact ⟨rfl, K0.out⟩

set_option maxRecDepth 100000 in
set_option maxHeartbeats 16000000 in
theorem rightState_any (s : SeatV) (A : Option Addr) (n cap : Nat) (w : World) : Calls Tryd.prog 60 #[s.val A n cap] w fun e w' => e = .returned (.bool (s.st == 1 || s.st == 2)) ∧ Below w.heap.size w w' := by
  obtain ⟨st, sh, sd, sp, ⟨⟨eu, es, eh, ea⟩, en⟩, ⟨⟨fu, fs, fh, fa⟩, fn⟩⟩ := s
  have HV : Hid (SeatV.val ⟨st, sh, sd, sp, ⟨⟨eu, es, eh, ea⟩, en⟩, ⟨⟨fu, fs, fh, fa⟩, fn⟩⟩ A n cap = .agg #[.int .i64 st, .int .i64 sh, .int .i64 sd, .int .i64 sp, .int .i64 eu, .int .i64 es, .int .i64 eh, .int .i64 ea, .int .i64 en, .int .i64 fu, .int .i64 fs, .int .i64 fh, .int .i64 fa, .int .i64 fn, .slice A n cap]) := rfl
  rw [HV.out]
  dsimp only
  clear HV
  obtain ⟨W0, hW0⟩ : ∃ W, w.alloc (.cells #[.int .i64 st, .int .i64 sh, .int .i64 sd, .int .i64 sp, .int .i64 eu, .int .i64 es, .int .i64 eh, .int .i64 ea, .int .i64 en, .int .i64 fu, .int .i64 fs, .int .i64 fh, .int .i64 fa, .int .i64 fn, .slice A n cap] 32) = W := ⟨_, rfl⟩
  have K0 : Hid (Below w.heap.size w W0) := by rw [← hW0]; exact (Below.refl _ w).alloc (Nat.le_refl _) _
  have S0 : Hid (W0.heap[w.heap.size]? = some (.cells #[.int .i64 st, .int .i64 sh, .int .i64 sd, .int .i64 sp, .int .i64 eu, .int .i64 es, .int .i64 eh, .int .i64 ea, .int .i64 en, .int .i64 fu, .int .i64 fs, .int .i64 fh, .int .i64 fa, .int .i64 fn, .slice A n cap] 32)) := by rw [← hW0]; exact heap1 w _
  go_enter Tryd.func60, Tryd.ntmps60
  obtain ⟨⟨a0, a1, a2, a3, a4, a5, a6, a7, a8, a9, a10, a11, a12, a13, a14⟩, _⟩ := blk15 S0.out
  cases h1 : st == 1
  ·
    go_wp2
    go_ret
    exact ⟨rfl, K0.out⟩
  ·
    go_wp2
    go_ret
    exact ⟨rfl, K0.out⟩

set_option maxRecDepth 100000 in
set_option maxHeartbeats 16000000 in
theorem rightSecret_any (s : SeatV) (A : Option Addr) (n cap : Nat) (w : World) : Calls Tryd.prog 62 #[s.val A n cap] w fun e w' => e = .returned (.bool (pkB s)) ∧ Below w.heap.size w w' := by
  obtain ⟨st, sh, sd, sp, ⟨⟨eu, es, eh, ea⟩, en⟩, ⟨⟨fu, fs, fh, fa⟩, fn⟩⟩ := s
  have HV : Hid (SeatV.val ⟨st, sh, sd, sp, ⟨⟨eu, es, eh, ea⟩, en⟩, ⟨⟨fu, fs, fh, fa⟩, fn⟩⟩ A n cap = .agg #[.int .i64 st, .int .i64 sh, .int .i64 sd, .int .i64 sp, .int .i64 eu, .int .i64 es, .int .i64 eh, .int .i64 ea, .int .i64 en, .int .i64 fu, .int .i64 fs, .int .i64 fh, .int .i64 fa, .int .i64 fn, .slice A n cap]) := rfl
  rw [HV.out]
  have cX : Hid (∀ w' : World, Calls Tryd.prog 82 #[.agg #[.int .i64 st, .int .i64 sh, .int .i64 sd, .int .i64 sp, .int .i64 eu, .int .i64 es, .int .i64 eh, .int .i64 ea, .int .i64 en, .int .i64 fu, .int .i64 fs, .int .i64 fh, .int .i64 fa, .int .i64 fn, .slice A n cap]] w' fun e w'' => e = .returned (.int .i64 fs) ∧ Below w'.heap.size w' w'') := fun w' => by exact secret_any ⟨st, sh, sd, sp, ⟨⟨eu, es, eh, ea⟩, en⟩, ⟨⟨fu, fs, fh, fa⟩, fn⟩⟩ A n cap w'
  clear HV
  unfold pkB
  dsimp only
  obtain ⟨W0, hW0⟩ : ∃ W, w.alloc (.cells #[.int .i64 st, .int .i64 sh, .int .i64 sd, .int .i64 sp, .int .i64 eu, .int .i64 es, .int .i64 eh, .int .i64 ea, .int .i64 en, .int .i64 fu, .int .i64 fs, .int .i64 fh, .int .i64 fa, .int .i64 fn, .slice A n cap] 32) = W := ⟨_, rfl⟩
  have K0 : Hid (Below w.heap.size w W0) := by rw [← hW0]; exact (Below.refl _ w).alloc (Nat.le_refl _) _
  have S0 : Hid (W0.heap[w.heap.size]? = some (.cells #[.int .i64 st, .int .i64 sh, .int .i64 sd, .int .i64 sp, .int .i64 eu, .int .i64 es, .int .i64 eh, .int .i64 ea, .int .i64 en, .int .i64 fu, .int .i64 fs, .int .i64 fh, .int .i64 fa, .int .i64 fn, .slice A n cap] 32)) := by rw [← hW0]; exact heap1 w _
  go_enter Tryd.func62, Tryd.ntmps62
  obtain ⟨⟨a0, a1, a2, a3, a4, a5, a6, a7, a8, a9, a10, a11, a12, a13, a14⟩, _⟩ := blk15 S0.out
  by_cases h1 : sp = 1
  ·
    have h1q : (sp == 1) = true := beq_int h1
    rw [h1q]
    clear h1
    go_wp2_with (refine wpList_load_row rfl 32 _ rfl (w.heap.size) rfl 32 _ (0, 0) _ S0.out Tryd.underlying32 rfl (by kernel_rfl) ?_)
    refine (cX.out _).mono ?_
    rintro e w1 ⟨rfl, hb⟩
    have S1 := Lib.hid (blk_on hb S0.out)
    have K1 := Lib.hid (K0.out.trans (hb.mono K0.out.size))
    clear hb S0 K0
    go_wp2
    go_ret
    exact ⟨rfl, K1.out⟩
  ·
    have h1q : (sp == 1) = false := bne_int h1
    rw [h1q]
    clear h1
    by_cases h2 : sp = 2
    ·
      have h2q : (sp == 2) = true := beq_int h2
      rw [h2q]
      clear h2
      go_wp2_with (refine wpList_load_row rfl 32 _ rfl (w.heap.size) rfl 32 _ (0, 0) _ S0.out Tryd.underlying32 rfl (by kernel_rfl) ?_)
      refine (cX.out _).mono ?_
      rintro e w1 ⟨rfl, hb⟩
      have S1 := Lib.hid (blk_on hb S0.out)
      have K1 := Lib.hid (K0.out.trans (hb.mono K0.out.size))
      clear hb S0 K0
      go_wp2
      go_ret
      exact ⟨rfl, K1.out⟩
    ·
      have h2q : (sp == 2) = false := bne_int h2
      rw [h2q]
      clear h2
      by_cases h3 : sp = 3
      ·
        have h3q : (sp == 3) = true := beq_int h3
        rw [h3q]
        clear h3
        go_wp2_with (refine wpList_load_row rfl 32 _ rfl (w.heap.size) rfl 32 _ (0, 0) _ S0.out Tryd.underlying32 rfl (by kernel_rfl) ?_)
        refine (cX.out _).mono ?_
        rintro e w1 ⟨rfl, hb⟩
        have S1 := Lib.hid (blk_on hb S0.out)
        have K1 := Lib.hid (K0.out.trans (hb.mono K0.out.size))
        clear hb S0 K0
        go_wp2
        go_ret
        exact ⟨rfl, K1.out⟩
      ·
        have h3q : (sp == 3) = false := bne_int h3
        rw [h3q]
        clear h3
        go_wp2
        go_ret
        exact ⟨rfl, K0.out⟩

set_option maxRecDepth 100000 in
set_option maxHeartbeats 16000000 in
theorem rightForth_any (s : SeatV) (A : Option Addr) (n cap : Nat) (w : World) : Calls Tryd.prog 63 #[s.val A n cap] w fun e w' => e = .returned (.bool (fthB s)) ∧ Below w.heap.size w w' := by
  obtain ⟨st, sh, sd, sp, ⟨⟨eu, es, eh, ea⟩, en⟩, ⟨⟨fu, fs, fh, fa⟩, fn⟩⟩ := s
  have HV : Hid (SeatV.val ⟨st, sh, sd, sp, ⟨⟨eu, es, eh, ea⟩, en⟩, ⟨⟨fu, fs, fh, fa⟩, fn⟩⟩ A n cap = .agg #[.int .i64 st, .int .i64 sh, .int .i64 sd, .int .i64 sp, .int .i64 eu, .int .i64 es, .int .i64 eh, .int .i64 ea, .int .i64 en, .int .i64 fu, .int .i64 fs, .int .i64 fh, .int .i64 fa, .int .i64 fn, .slice A n cap]) := rfl
  rw [HV.out]
  have cX : Hid (∀ w' : World, Calls Tryd.prog 82 #[.agg #[.int .i64 st, .int .i64 sh, .int .i64 sd, .int .i64 sp, .int .i64 eu, .int .i64 es, .int .i64 eh, .int .i64 ea, .int .i64 en, .int .i64 fu, .int .i64 fs, .int .i64 fh, .int .i64 fa, .int .i64 fn, .slice A n cap]] w' fun e w'' => e = .returned (.int .i64 fs) ∧ Below w'.heap.size w' w'') := fun w' => by exact secret_any ⟨st, sh, sd, sp, ⟨⟨eu, es, eh, ea⟩, en⟩, ⟨⟨fu, fs, fh, fa⟩, fn⟩⟩ A n cap w'
  obtain ⟨⟨ku, ks, kh, ka⟩, hk⟩ : ∃ x, forthK fs sh sd = x := ⟨_, rfl⟩
  have cK' := fun w' => ForthKey_impl fs sh sd w'
  have e1 : rightK ⟨4, fs, sh, sd⟩ = forthK fs sh sd := rfl
  rw [e1, hk] at cK'
  have cK : Hid (∀ w' : World, Calls Tryd.prog 28 #[.int .i64 fs, .int .i64 sh, .int .i64 sd] w' fun e w'' => e = .returned (.agg #[.int .i64 ku, .int .i64 ks, .int .i64 kh, .int .i64 ka]) ∧ Below w'.heap.size w' w'') := fun w' => cK' w'
  have cR : Hid (∀ w' : World, Calls Tryd.prog 83 #[.agg #[.int .i64 fu, .int .i64 fs, .int .i64 fh, .int .i64 fa, .int .i64 fn]] w' fun e w'' => e = .returned (.bool (rowOkB ⟨⟨fu, fs, fh, fa⟩, fn⟩)) ∧ Below w'.heap.size w' w'') := fun w' => by exact RowOk_impl ⟨⟨fu, fs, fh, fa⟩, fn⟩ w'
  have HR : fthB ⟨st, sh, sd, sp, ⟨⟨eu, es, eh, ea⟩, en⟩, ⟨⟨fu, fs, fh, fa⟩, fn⟩⟩ = (rowOkB ⟨⟨fu, fs, fh, fa⟩, fn⟩ && KeyV.same ⟨fu, fs, fh, fa⟩ (forthK fs sh sd)) := rfl
  rw [hk] at HR
  rw [HR]
  clear HV HR cK' e1 hk
  generalize rowOkB ⟨⟨fu, fs, fh, fa⟩, fn⟩ = rr at cR ⊢
  obtain ⟨W0, hW0⟩ : ∃ W, w.alloc (.cells #[.int .i64 st, .int .i64 sh, .int .i64 sd, .int .i64 sp, .int .i64 eu, .int .i64 es, .int .i64 eh, .int .i64 ea, .int .i64 en, .int .i64 fu, .int .i64 fs, .int .i64 fh, .int .i64 fa, .int .i64 fn, .slice A n cap] 32) = W := ⟨_, rfl⟩
  have K0 : Hid (Below w.heap.size w W0) := by rw [← hW0]; exact (Below.refl _ w).alloc (Nat.le_refl _) _
  have S0 : Hid (W0.heap[w.heap.size]? = some (.cells #[.int .i64 st, .int .i64 sh, .int .i64 sd, .int .i64 sp, .int .i64 eu, .int .i64 es, .int .i64 eh, .int .i64 ea, .int .i64 en, .int .i64 fu, .int .i64 fs, .int .i64 fh, .int .i64 fa, .int .i64 fn, .slice A n cap] 32)) := by rw [← hW0]; exact heap1 w _
  go_enter Tryd.func63, Tryd.ntmps63
  go_wp2_with fail
  clear hW0
  cases rr with
  | false =>
    refine wp_region_own (W := W0) [] (fun _ => True) stays_true trivial [0, 0, 1, 0, 0, 0, 0, 0, 1, 0, 0, 0, 0, 1, 0, 0, 0] (by kernel_rfl) (by kernel_rfl) (by kernel_rfl) ?_
    have fS : ∀ q : In (plainEnv W0 []), _ := fun q => (blk15 (q.block S0.out (by simp))).1
    refine wpO_quiet 2 rfl (by kernel_rfl) ?_
    simp only [List.take, List.drop]
    repeat (go_big_quiet_step (fail))
    refine wpQuiet_nil ?_
    refine wpO_call (f := 83) (args := #[.agg #[.int .i64 fu, .int .i64 fs, .int .i64 fh, .int .i64 fa, .int .i64 fn]]) (.bool false) rfl (fun w' => by simp [go_sem]) (fun w' hC _ => cR.out w') ?_
    simp only [Act.put, List.setIfInBounds_toArray, List.set_cons_succ, List.set_cons_zero]
    refine wpO_quiet 5 rfl (by kernel_rfl) ?_
    simp only [List.take, List.drop]
    repeat (go_big_quiet_step (fail))
    refine wpQuiet_nil ?_
    refine wpO_skip rfl ?_
    simp only [Act.put, List.setIfInBounds_toArray, List.set_cons_succ, List.set_cons_zero]
    refine wpO_quiet 4 rfl (by kernel_rfl) ?_
    simp only [List.take, List.drop]
    repeat (go_big_quiet_step (fail))
    refine wpQuiet_nil ?_
    refine wpO_skip rfl ?_
    simp only [Act.put, List.setIfInBounds_toArray, List.set_cons_succ, List.set_cons_zero]
    refine wpO_quiet 3 rfl (by kernel_rfl) ?_
    simp only [List.take, List.drop]
    repeat (go_big_quiet_step (fail))
    refine wpQuiet_nil ?_
    refine wpO_nil ?_
    rintro w1 hb' _
    have hb := kept_below hb'
    have S1 := Lib.hid (blk_on hb S0.out)
    have K1 := Lib.hid (K0.out.trans (hb.mono K0.out.size))
    clear fS hb hb' S0 K0
    go_wp2
    go_ret
    exact ⟨rfl, K1.out⟩
  | true =>
    have hqe := eq_agg fu fs fh fa ku ks kh ka
    refine wp_region_own (W := W0) [] (fun _ => True) stays_true trivial [0, 0, 1, 0, 0, 0, 0, 0, 1, 0, 0, 0, 0, 1, 0, 0, 0] (by kernel_rfl) (by kernel_rfl) (by kernel_rfl) ?_
    have fS : ∀ q : In (plainEnv W0 []), _ := fun q => (blk15 (q.block S0.out (by simp))).1
    have rS : Hid (∀ q : In (plainEnv W0 []), q.w.heap[w.heap.size]? = some (.cells #[.int .i64 st, .int .i64 sh, .int .i64 sd, .int .i64 sp, .int .i64 eu, .int .i64 es, .int .i64 eh, .int .i64 ea, .int .i64 en, .int .i64 fu, .int .i64 fs, .int .i64 fh, .int .i64 fa, .int .i64 fn, .slice A n cap] 32)) := fun q => q.block S0.out (by simp)
    refine wpO_quiet 2 rfl (by kernel_rfl) ?_
    simp only [List.take, List.drop]
    repeat (go_big_quiet_step (fail))
    refine wpQuiet_nil ?_
    refine wpO_call (f := 83) (args := #[.agg #[.int .i64 fu, .int .i64 fs, .int .i64 fh, .int .i64 fa, .int .i64 fn]]) (.bool true) rfl (fun w' => by simp [go_sem]) (fun w' hC _ => cR.out w') ?_
    simp only [Act.put, List.setIfInBounds_toArray, List.set_cons_succ, List.set_cons_zero]
    refine wpO_quiet 4 rfl (by kernel_rfl) ?_
    simp only [List.take, List.drop]
    repeat (go_big_quiet_step (fail))
    refine wpQuiet_nil ?_
    refine wpO_load_row rfl 32 _ rfl (w.heap.size) rfl 32 _ (0, 0) _ rS.out Tryd.underlying32 rfl (by kernel_rfl) ?_
    simp only [Act.put, List.setIfInBounds_toArray, List.set_cons_succ, List.set_cons_zero]
    refine wpO_call (f := 82) (args := #[.agg #[.int .i64 st, .int .i64 sh, .int .i64 sd, .int .i64 sp, .int .i64 eu, .int .i64 es, .int .i64 eh, .int .i64 ea, .int .i64 en, .int .i64 fu, .int .i64 fs, .int .i64 fh, .int .i64 fa, .int .i64 fn, .slice A n cap]]) (.int .i64 fs) rfl (fun w' => by simp [go_sem]) (fun w' hC _ => cX.out w') ?_
    simp only [Act.put, List.setIfInBounds_toArray, List.set_cons_succ, List.set_cons_zero]
    refine wpO_quiet 4 rfl (by kernel_rfl) ?_
    simp only [List.take, List.drop]
    repeat (go_big_quiet_step (fail))
    refine wpQuiet_nil ?_
    refine wpO_call (f := 28) (args := #[.int .i64 fs, .int .i64 sh, .int .i64 sd]) (.agg #[.int .i64 ku, .int .i64 ks, .int .i64 kh, .int .i64 ka]) rfl (fun w' => by simp [go_sem]) (fun w' hC _ => cK.out w') ?_
    simp only [Act.put, List.setIfInBounds_toArray, List.set_cons_succ, List.set_cons_zero]
    refine wpO_quiet 3 rfl (by kernel_rfl) ?_
    simp only [List.take, List.drop]
    repeat (go_big_quiet_step (fail))
    refine wpQuiet_nil ?_
    refine wpO_nil ?_
    rintro w1 hb' _
    have hb := kept_below hb'
    have S1 := Lib.hid (blk_on hb S0.out)
    have K1 := Lib.hid (K0.out.trans (hb.mono K0.out.size))
    clear fS rS hb hb' S0 K0
    go_wp2
    go_ret
    exact ⟨rfl, K1.out⟩

set_option maxRecDepth 100000 in
set_option maxHeartbeats 16000000 in
theorem rightEarly_any (s : SeatV) (A : Option Addr) (n cap : Nat) (w : World) : Calls Tryd.prog 64 #[s.val A n cap] w fun e w' => e = .returned (.bool (erlB s)) ∧ Below w.heap.size w w' := by
  obtain ⟨st, sh, sd, sp, ⟨⟨eu, es, eh, ea⟩, en⟩, ⟨⟨fu, fs, fh, fa⟩, fn⟩⟩ := s
  have HV : Hid (SeatV.val ⟨st, sh, sd, sp, ⟨⟨eu, es, eh, ea⟩, en⟩, ⟨⟨fu, fs, fh, fa⟩, fn⟩⟩ A n cap = .agg #[.int .i64 st, .int .i64 sh, .int .i64 sd, .int .i64 sp, .int .i64 eu, .int .i64 es, .int .i64 eh, .int .i64 ea, .int .i64 en, .int .i64 fu, .int .i64 fs, .int .i64 fh, .int .i64 fa, .int .i64 fn, .slice A n cap]) := rfl
  rw [HV.out]
  have cX : Hid (∀ w' : World, Calls Tryd.prog 82 #[.agg #[.int .i64 st, .int .i64 sh, .int .i64 sd, .int .i64 sp, .int .i64 eu, .int .i64 es, .int .i64 eh, .int .i64 ea, .int .i64 en, .int .i64 fu, .int .i64 fs, .int .i64 fh, .int .i64 fa, .int .i64 fn, .slice A n cap]] w' fun e w'' => e = .returned (.int .i64 fs) ∧ Below w'.heap.size w' w'') := fun w' => by exact secret_any ⟨st, sh, sd, sp, ⟨⟨eu, es, eh, ea⟩, en⟩, ⟨⟨fu, fs, fh, fa⟩, fn⟩⟩ A n cap w'
  obtain ⟨⟨ku, ks, kh, ka⟩, hk⟩ : ∃ x, earlyK fs sh = x := ⟨_, rfl⟩
  have cK' := fun w' => EarlyKey_impl fs sh w'
  have e1 : rightK ⟨1, fs, sh, 0⟩ = earlyK fs sh := rfl
  rw [e1, hk] at cK'
  have cK : Hid (∀ w' : World, Calls Tryd.prog 29 #[.int .i64 fs, .int .i64 sh] w' fun e w'' => e = .returned (.agg #[.int .i64 ku, .int .i64 ks, .int .i64 kh, .int .i64 ka]) ∧ Below w'.heap.size w' w'') := fun w' => cK' w'
  have cR : Hid (∀ w' : World, Calls Tryd.prog 83 #[.agg #[.int .i64 eu, .int .i64 es, .int .i64 eh, .int .i64 ea, .int .i64 en]] w' fun e w'' => e = .returned (.bool (rowOkB ⟨⟨eu, es, eh, ea⟩, en⟩)) ∧ Below w'.heap.size w' w'') := fun w' => by exact RowOk_impl ⟨⟨eu, es, eh, ea⟩, en⟩ w'
  have HR : erlB ⟨st, sh, sd, sp, ⟨⟨eu, es, eh, ea⟩, en⟩, ⟨⟨fu, fs, fh, fa⟩, fn⟩⟩ = if st == 1 && sp == 3 then (rowOkB ⟨⟨eu, es, eh, ea⟩, en⟩ && KeyV.same ⟨eu, es, eh, ea⟩ (earlyK fs sh)) else RowV.isZ ⟨⟨eu, es, eh, ea⟩, en⟩ := rfl
  rw [hk] at HR
  rw [HR]
  clear HV HR cK' e1 hk
  generalize rowOkB ⟨⟨eu, es, eh, ea⟩, en⟩ = rr at cR ⊢
  obtain ⟨W0, hW0⟩ : ∃ W, w.alloc (.cells #[.int .i64 st, .int .i64 sh, .int .i64 sd, .int .i64 sp, .int .i64 eu, .int .i64 es, .int .i64 eh, .int .i64 ea, .int .i64 en, .int .i64 fu, .int .i64 fs, .int .i64 fh, .int .i64 fa, .int .i64 fn, .slice A n cap] 32) = W := ⟨_, rfl⟩
  have K0 : Hid (Below w.heap.size w W0) := by rw [← hW0]; exact (Below.refl _ w).alloc (Nat.le_refl _) _
  have S0 : Hid (W0.heap[w.heap.size]? = some (.cells #[.int .i64 st, .int .i64 sh, .int .i64 sd, .int .i64 sp, .int .i64 eu, .int .i64 es, .int .i64 eh, .int .i64 ea, .int .i64 en, .int .i64 fu, .int .i64 fs, .int .i64 fh, .int .i64 fa, .int .i64 fn, .slice A n cap] 32)) := by rw [← hW0]; exact heap1 w _
  go_enter Tryd.func64, Tryd.ntmps64
  obtain ⟨⟨a0, a1, a2, a3, a4, a5, a6, a7, a8, a9, a10, a11, a12, a13, a14⟩, _⟩ := blk15 S0.out
  by_cases hs : st = 1
  ·
    have hsq : (st == 1) = true := beq_int hs
    rw [hsq]
    clear hs
    by_cases hp : sp = 3
    ·
      have hpq : (sp == 3) = true := beq_int hp
      rw [hpq]
      clear hp
      simp only [Bool.and_true, if_true]
      go_wp2_with fail
      clear a0 a1 a2 a3 a4 a5 a6 a7 a8 a9 a10 a11 a12 a13 a14
      clear hW0
      cases rr with
      | false =>
        refine wp_region_own (W := W0) [] (fun _ => True) stays_true trivial [0, 0, 1, 0, 0, 0, 0, 0, 1, 0, 0, 1, 0, 0, 0] (by kernel_rfl) (by kernel_rfl) (by kernel_rfl) ?_
        have fS : ∀ q : In (plainEnv W0 []), _ := fun q => (blk15 (q.block S0.out (by simp))).1
        refine wpO_quiet 2 rfl (by kernel_rfl) ?_
        simp only [List.take, List.drop]
        repeat (go_big_quiet_step (fail))
        refine wpQuiet_nil ?_
        refine wpO_call (f := 83) (args := #[.agg #[.int .i64 eu, .int .i64 es, .int .i64 eh, .int .i64 ea, .int .i64 en]]) (.bool false) rfl (fun w' => by simp [go_sem]) (fun w' hC _ => cR.out w') ?_
        simp only [Act.put, List.setIfInBounds_toArray, List.set_cons_succ, List.set_cons_zero]
        refine wpO_quiet 5 rfl (by kernel_rfl) ?_
        simp only [List.take, List.drop]
        repeat (go_big_quiet_step (fail))
        refine wpQuiet_nil ?_
        refine wpO_skip rfl ?_
        simp only [Act.put, List.setIfInBounds_toArray, List.set_cons_succ, List.set_cons_zero]
        refine wpO_quiet 2 rfl (by kernel_rfl) ?_
        simp only [List.take, List.drop]
        repeat (go_big_quiet_step (fail))
        refine wpQuiet_nil ?_
        refine wpO_skip rfl ?_
        simp only [Act.put, List.setIfInBounds_toArray, List.set_cons_succ, List.set_cons_zero]
        refine wpO_quiet 3 rfl (by kernel_rfl) ?_
        simp only [List.take, List.drop]
        repeat (go_big_quiet_step (fail))
        refine wpQuiet_nil ?_
        refine wpO_nil ?_
        rintro w1 hb' _
        have hb := kept_below hb'
        have S1 := Lib.hid (blk_on hb S0.out)
        have K1 := Lib.hid (K0.out.trans (hb.mono K0.out.size))
        clear fS hb hb' S0 K0
        go_wp2
        go_ret
        exact ⟨rfl, K1.out⟩
      | true =>
        have hqe := eq_agg eu es eh ea ku ks kh ka
        refine wp_region_own (W := W0) [] (fun _ => True) stays_true trivial [0, 0, 1, 0, 0, 0, 0, 0, 1, 0, 0, 1, 0, 0, 0] (by kernel_rfl) (by kernel_rfl) (by kernel_rfl) ?_
        have fS : ∀ q : In (plainEnv W0 []), _ := fun q => (blk15 (q.block S0.out (by simp))).1
        have rS : Hid (∀ q : In (plainEnv W0 []), q.w.heap[w.heap.size]? = some (.cells #[.int .i64 st, .int .i64 sh, .int .i64 sd, .int .i64 sp, .int .i64 eu, .int .i64 es, .int .i64 eh, .int .i64 ea, .int .i64 en, .int .i64 fu, .int .i64 fs, .int .i64 fh, .int .i64 fa, .int .i64 fn, .slice A n cap] 32)) := fun q => q.block S0.out (by simp)
        refine wpO_quiet 2 rfl (by kernel_rfl) ?_
        simp only [List.take, List.drop]
        repeat (go_big_quiet_step (fail))
        refine wpQuiet_nil ?_
        refine wpO_call (f := 83) (args := #[.agg #[.int .i64 eu, .int .i64 es, .int .i64 eh, .int .i64 ea, .int .i64 en]]) (.bool true) rfl (fun w' => by simp [go_sem]) (fun w' hC _ => cR.out w') ?_
        simp only [Act.put, List.setIfInBounds_toArray, List.set_cons_succ, List.set_cons_zero]
        refine wpO_quiet 4 rfl (by kernel_rfl) ?_
        simp only [List.take, List.drop]
        repeat (go_big_quiet_step (fail))
        refine wpQuiet_nil ?_
        refine wpO_load_row rfl 32 _ rfl (w.heap.size) rfl 32 _ (0, 0) _ rS.out Tryd.underlying32 rfl (by kernel_rfl) ?_
        simp only [Act.put, List.setIfInBounds_toArray, List.set_cons_succ, List.set_cons_zero]
        refine wpO_call (f := 82) (args := #[.agg #[.int .i64 st, .int .i64 sh, .int .i64 sd, .int .i64 sp, .int .i64 eu, .int .i64 es, .int .i64 eh, .int .i64 ea, .int .i64 en, .int .i64 fu, .int .i64 fs, .int .i64 fh, .int .i64 fa, .int .i64 fn, .slice A n cap]]) (.int .i64 fs) rfl (fun w' => by simp [go_sem]) (fun w' hC _ => cX.out w') ?_
        simp only [Act.put, List.setIfInBounds_toArray, List.set_cons_succ, List.set_cons_zero]
        refine wpO_quiet 2 rfl (by kernel_rfl) ?_
        simp only [List.take, List.drop]
        repeat (go_big_quiet_step (fail))
        refine wpQuiet_nil ?_
        refine wpO_call (f := 29) (args := #[.int .i64 fs, .int .i64 sh]) (.agg #[.int .i64 ku, .int .i64 ks, .int .i64 kh, .int .i64 ka]) rfl (fun w' => by simp [go_sem]) (fun w' hC _ => cK.out w') ?_
        simp only [Act.put, List.setIfInBounds_toArray, List.set_cons_succ, List.set_cons_zero]
        refine wpO_quiet 3 rfl (by kernel_rfl) ?_
        simp only [List.take, List.drop]
        repeat (go_big_quiet_step (fail))
        refine wpQuiet_nil ?_
        refine wpO_nil ?_
        rintro w1 hb' _
        have hb := kept_below hb'
        have S1 := Lib.hid (blk_on hb S0.out)
        have K1 := Lib.hid (K0.out.trans (hb.mono K0.out.size))
        clear fS rS hb hb' S0 K0
        go_wp2
        go_ret
        exact ⟨rfl, K1.out⟩
    ·
      have hpq : (sp == 3) = false := bne_int hp
      rw [hpq]
      clear hp
      simp only [Bool.and_false, Bool.false_eq_true, if_false]
      have hz := eq_row_zero eu es eh ea en
      go_wp2
      go_ret
      exact ⟨rfl, K0.out⟩
  ·
    have hsq : (st == 1) = false := bne_int hs
    rw [hsq]
    clear hs
    simp only [Bool.false_and, Bool.false_eq_true, if_false]
    have hz := eq_row_zero eu es eh ea en
    go_wp2
    go_ret
    exact ⟨rfl, K0.out⟩

set_option maxRecDepth 100000 in
set_option maxHeartbeats 16000000 in
theorem SeatOk_impl0 (s : SeatV) (A : Option Addr) (n cap : Nat) (w : World) : Calls Tryd.prog 30 #[s.val A n cap] w fun e w' => e = .returned (.bool (seatOkB s n)) ∧ Below w.heap.size w w' := by
  obtain ⟨st, sh, sd, sp, ⟨⟨eu, es, eh, ea⟩, en⟩, ⟨⟨fu, fs, fh, fa⟩, fn⟩⟩ := s
  have HV : Hid (SeatV.val ⟨st, sh, sd, sp, ⟨⟨eu, es, eh, ea⟩, en⟩, ⟨⟨fu, fs, fh, fa⟩, fn⟩⟩ A n cap = .agg #[.int .i64 st, .int .i64 sh, .int .i64 sd, .int .i64 sp, .int .i64 eu, .int .i64 es, .int .i64 eh, .int .i64 ea, .int .i64 en, .int .i64 fu, .int .i64 fs, .int .i64 fh, .int .i64 fa, .int .i64 fn, .slice A n cap]) := rfl
  rw [HV.out]
  rw [seat_prog]
  have c0 : Hid (∀ w' : World, Calls Tryd.prog 60 #[.agg #[.int .i64 st, .int .i64 sh, .int .i64 sd, .int .i64 sp, .int .i64 eu, .int .i64 es, .int .i64 eh, .int .i64 ea, .int .i64 en, .int .i64 fu, .int .i64 fs, .int .i64 fh, .int .i64 fa, .int .i64 fn, .slice A n cap]] w' fun e w'' => e = .returned (.bool (st == 1 || st == 2)) ∧ Below w'.heap.size w' w'') := fun w' => by exact rightState_any ⟨st, sh, sd, sp, ⟨⟨eu, es, eh, ea⟩, en⟩, ⟨⟨fu, fs, fh, fa⟩, fn⟩⟩ A n cap w'
  have c1 : Hid (∀ w' : World, Calls Tryd.prog 61 #[.int .i64 sh] w' fun e w'' => e = .returned (.bool (isDrawB sh)) ∧ Below w'.heap.size w' w'') := fun w' => by exact IsDraw_impl sh w'
  have c2 : Hid (∀ w' : World, Calls Tryd.prog 61 #[.int .i64 sd] w' fun e w'' => e = .returned (.bool (isDrawB sd)) ∧ Below w'.heap.size w' w'') := fun w' => by exact IsDraw_impl sd w'
  have c3 : Hid (∀ w' : World, Calls Tryd.prog 62 #[.agg #[.int .i64 st, .int .i64 sh, .int .i64 sd, .int .i64 sp, .int .i64 eu, .int .i64 es, .int .i64 eh, .int .i64 ea, .int .i64 en, .int .i64 fu, .int .i64 fs, .int .i64 fh, .int .i64 fa, .int .i64 fn, .slice A n cap]] w' fun e w'' => e = .returned (.bool (pkB ⟨st, sh, sd, sp, ⟨⟨eu, es, eh, ea⟩, en⟩, ⟨⟨fu, fs, fh, fa⟩, fn⟩⟩)) ∧ Below w'.heap.size w' w'') := fun w' => by exact rightSecret_any ⟨st, sh, sd, sp, ⟨⟨eu, es, eh, ea⟩, en⟩, ⟨⟨fu, fs, fh, fa⟩, fn⟩⟩ A n cap w'
  have c4 : Hid (∀ w' : World, Calls Tryd.prog 63 #[.agg #[.int .i64 st, .int .i64 sh, .int .i64 sd, .int .i64 sp, .int .i64 eu, .int .i64 es, .int .i64 eh, .int .i64 ea, .int .i64 en, .int .i64 fu, .int .i64 fs, .int .i64 fh, .int .i64 fa, .int .i64 fn, .slice A n cap]] w' fun e w'' => e = .returned (.bool (fthB ⟨st, sh, sd, sp, ⟨⟨eu, es, eh, ea⟩, en⟩, ⟨⟨fu, fs, fh, fa⟩, fn⟩⟩)) ∧ Below w'.heap.size w' w'') := fun w' => by exact rightForth_any ⟨st, sh, sd, sp, ⟨⟨eu, es, eh, ea⟩, en⟩, ⟨⟨fu, fs, fh, fa⟩, fn⟩⟩ A n cap w'
  have c5 : Hid (∀ w' : World, Calls Tryd.prog 64 #[.agg #[.int .i64 st, .int .i64 sh, .int .i64 sd, .int .i64 sp, .int .i64 eu, .int .i64 es, .int .i64 eh, .int .i64 ea, .int .i64 en, .int .i64 fu, .int .i64 fs, .int .i64 fh, .int .i64 fa, .int .i64 fn, .slice A n cap]] w' fun e w'' => e = .returned (.bool (erlB ⟨st, sh, sd, sp, ⟨⟨eu, es, eh, ea⟩, en⟩, ⟨⟨fu, fs, fh, fa⟩, fn⟩⟩)) ∧ Below w'.heap.size w' w'') := fun w' => by exact rightEarly_any ⟨st, sh, sd, sp, ⟨⟨eu, es, eh, ea⟩, en⟩, ⟨⟨fu, fs, fh, fa⟩, fn⟩⟩ A n cap w'
  generalize pkB ⟨st, sh, sd, sp, ⟨⟨eu, es, eh, ea⟩, en⟩, ⟨⟨fu, fs, fh, fa⟩, fn⟩⟩ = z3 at c3 ⊢
  generalize fthB ⟨st, sh, sd, sp, ⟨⟨eu, es, eh, ea⟩, en⟩, ⟨⟨fu, fs, fh, fa⟩, fn⟩⟩ = z4 at c4 ⊢
  generalize erlB ⟨st, sh, sd, sp, ⟨⟨eu, es, eh, ea⟩, en⟩, ⟨⟨fu, fs, fh, fa⟩, fn⟩⟩ = z5 at c5 ⊢
  dsimp only
  generalize (st == 1 || st == 2) = z0 at c0 ⊢
  generalize isDrawB sh = z1 at c1 ⊢
  generalize isDrawB sd = z2 at c2 ⊢
  have hl : decide ((n : Int) ≤ 60) = decide (n ≤ 60) := by
    by_cases h6 : n ≤ 60
    · rw [decide_eq_true h6, decide_eq_true (by omega)]
    · rw [decide_eq_false h6, decide_eq_false (by omega)]
  generalize decide (n ≤ 60) = zn at hl ⊢
  clear HV
  obtain ⟨W0, hW0⟩ : ∃ W, w.alloc (.cells #[.int .i64 st, .int .i64 sh, .int .i64 sd, .int .i64 sp, .int .i64 eu, .int .i64 es, .int .i64 eh, .int .i64 ea, .int .i64 en, .int .i64 fu, .int .i64 fs, .int .i64 fh, .int .i64 fa, .int .i64 fn, .slice A n cap] 32) = W := ⟨_, rfl⟩
  have K0 : Hid (Below w.heap.size w W0) := by rw [← hW0]; exact (Below.refl _ w).alloc (Nat.le_refl _) _
  have S0 : Hid (W0.heap[w.heap.size]? = some (.cells #[.int .i64 st, .int .i64 sh, .int .i64 sd, .int .i64 sp, .int .i64 eu, .int .i64 es, .int .i64 eh, .int .i64 ea, .int .i64 en, .int .i64 fu, .int .i64 fs, .int .i64 fh, .int .i64 fa, .int .i64 fn, .slice A n cap] 32)) := by rw [← hW0]; exact heap1 w _
  go_enter Tryd.func30, Tryd.ntmps30
  go_wp2_with (refine wpList_load_row rfl 32 _ rfl (w.heap.size) rfl 32 _ (0, 0) _ S0.out Tryd.underlying32 rfl (by kernel_rfl) ?_)
  clear hW0
  refine (c0.out _).mono ?_
  rintro e w1 ⟨rfl, hb⟩
  have S1 := Lib.hid (blk_on hb S0.out)
  have K1 := Lib.hid (K0.out.trans (hb.mono K0.out.size))
  clear hb S0 K0
  cases z0 with
  | false =>
    go_wp2
    go_ret
    exact ⟨rfl, K1.out⟩
  | true =>
    obtain ⟨⟨a0, a1, a2, a3, a4, a5, a6, a7, a8, a9, a10, a11, a12, a13, a14⟩, _⟩ := blk15 S1.out
    go_wp2_with fail
    clear a0 a1 a2 a3 a4 a5 a6 a7 a8 a9 a10 a11 a12 a13 a14
    refine (c1.out _).mono ?_
    rintro e w2 ⟨rfl, hb⟩
    have S2 := Lib.hid (blk_on hb S1.out)
    have K2 := Lib.hid (K1.out.trans (hb.mono K1.out.size))
    clear hb S1 K1
    cases z1 with
    | false =>
      go_wp2
      go_ret
      exact ⟨rfl, K2.out⟩
    | true =>
      obtain ⟨⟨a0, a1, a2, a3, a4, a5, a6, a7, a8, a9, a10, a11, a12, a13, a14⟩, _⟩ := blk15 S2.out
      go_wp2_with fail
      clear a0 a1 a2 a3 a4 a5 a6 a7 a8 a9 a10 a11 a12 a13 a14
      refine (c2.out _).mono ?_
      rintro e w3 ⟨rfl, hb⟩
      have S3 := Lib.hid (blk_on hb S2.out)
      have K3 := Lib.hid (K2.out.trans (hb.mono K2.out.size))
      clear hb S2 K2
      cases z2 with
      | false =>
        go_wp2
        go_ret
        exact ⟨rfl, K3.out⟩
      | true =>
        go_wp2_with (refine wpList_load_wanted rfl 32 _ rfl (w.heap.size) rfl 32 _ (0, 0) _ S3.out Tryd.underlying32 rfl (by kernel_rfl) ?_)
        refine (c3.out _).mono ?_
        rintro e w4 ⟨rfl, hb⟩
        have S4 := Lib.hid (blk_on hb S3.out)
        have K4 := Lib.hid (K3.out.trans (hb.mono K3.out.size))
        clear hb S3 K3
        cases z3 with
        | false =>
          go_wp2
          go_ret
          exact ⟨rfl, K4.out⟩
        | true =>
          go_wp2_with (refine wpList_load_wanted rfl 32 _ rfl (w.heap.size) rfl 32 _ (0, 0) _ S4.out Tryd.underlying32 rfl (by kernel_rfl) ?_)
          refine (c4.out _).mono ?_
          rintro e w5 ⟨rfl, hb⟩
          have S5 := Lib.hid (blk_on hb S4.out)
          have K5 := Lib.hid (K4.out.trans (hb.mono K4.out.size))
          clear hb S4 K4
          cases z4 with
          | false =>
            go_wp2
            go_ret
            exact ⟨rfl, K5.out⟩
          | true =>
            go_wp2_with (refine wpList_load_wanted rfl 32 _ rfl (w.heap.size) rfl 32 _ (0, 0) _ S5.out Tryd.underlying32 rfl (by kernel_rfl) ?_)
            refine (c5.out _).mono ?_
            rintro e w6 ⟨rfl, hb⟩
            have S6 := Lib.hid (blk_on hb S5.out)
            have K6 := Lib.hid (K5.out.trans (hb.mono K5.out.size))
            clear hb S5 K5
            cases z5 with
            | false =>
              go_wp2
              go_ret
              exact ⟨rfl, K6.out⟩
            | true =>
              obtain ⟨⟨a0, a1, a2, a3, a4, a5, a6, a7, a8, a9, a10, a11, a12, a13, a14⟩, _⟩ := blk15 S6.out
              go_wp2
              go_ret
              exact ⟨by simp, K6.out⟩
theorem SeatOk_impl (s : SeatV) (A : Option Addr) (n cap : Nat) (l : List WordV) (w : World) (_ : EltsO w w.heap.size A n l) (_ : n ≤ 1048576) : Calls Tryd.prog 30 #[s.val A n cap] w fun e w' => e = .returned (.bool (seatOkB s n)) ∧ Below w.heap.size w w' := SeatOk_impl0 s A n cap w

set_option maxRecDepth 100000 in
set_option maxHeartbeats 16000000 in
theorem NewSeat_impl (h d p s : Int) (w : World) : Calls Tryd.prog 7 #[.int .i64 h, .int .i64 d, .int .i64 p, .int .i64 s] w fun e w' => ∃ A c, e = .returned (.tuple #[(newSeatV h d p s).val A 0 c, .bool (newSeatB h d p s)]) ∧ LogOut w' w.heap.size A 0 c [] ∧ Below w.heap.size w w' := by
  have G1' : seatOkB (newSeatRaw h d p s) 0 = false → newSeatV h d p s = .zero ∧ newSeatB h d p s = false := fun e2 => by
    have e1 : newSeatB h d p s = false := (newB_raw h d p s).trans e2
    exact ⟨by rw [newSeatV, e1]; rfl, e1⟩
  have G2' : seatOkB (newSeatRaw h d p s) 0 = true → newSeatV h d p s = newSeatRaw h d p s ∧ newSeatB h d p s = true := fun e2 => by
    have e1 : newSeatB h d p s = true := (newB_raw h d p s).trans e2
    exact ⟨by rw [newSeatV, e1]; rfl, e1⟩
  have cFK' := fun w' => ForthKey_impl s h d w'
  have cEK' := fun w' => EarlyKey_impl s h w'
  have e1 : rightK ⟨4, s, h, d⟩ = forthK s h d := rfl
  have e2 : rightK ⟨1, s, h, 0⟩ = earlyK s h := rfl
  have r3 : p = 3 → newSeatRaw h d p s = ⟨1, h, d, p, ⟨earlyK s h, 0⟩, ⟨forthK s h d, 0⟩⟩ := fun hp => by rw [newSeatRaw, beq_int hp]; rfl
  have r4 : p ≠ 3 → newSeatRaw h d p s = ⟨1, h, d, p, .zero, ⟨forthK s h d, 0⟩⟩ := fun hp => by rw [newSeatRaw, bne_int hp]; rfl
  have cS := fun w' => SeatOk_impl0 (newSeatRaw h d p s) none 0 0 w'
  obtain ⟨⟨ku, ks, kh, ka⟩, hk⟩ : ∃ x, forthK s h d = x := ⟨_, rfl⟩
  obtain ⟨⟨qu, qs, qh, qa⟩, hq⟩ : ∃ x, earlyK s h = x := ⟨_, rfl⟩
  rw [e1, hk] at cFK'
  rw [e2, hq] at cEK'
  rw [hk, hq] at r3
  rw [hk] at r4
  clear e1 e2 hk hq
  obtain ⟨raw, hraw⟩ : ∃ x, newSeatRaw h d p s = x := ⟨_, rfl⟩
  rw [hraw] at G1' G2' r3 r4 cS
  clear hraw
  obtain ⟨zs, hzs⟩ : ∃ x, seatOkB raw 0 = x := ⟨_, rfl⟩
  rw [hzs] at G1' G2' cS
  clear hzs
  have cFK : Hid (∀ w' : World, Calls Tryd.prog 28 #[.int .i64 s, .int .i64 h, .int .i64 d] w' fun e w'' => e = .returned (.agg #[.int .i64 ku, .int .i64 ks, .int .i64 kh, .int .i64 ka]) ∧ Below w'.heap.size w' w'') := fun w' => cFK' w'
  have cEK : Hid (∀ w' : World, Calls Tryd.prog 29 #[.int .i64 s, .int .i64 h] w' fun e w'' => e = .returned (.agg #[.int .i64 qu, .int .i64 qs, .int .i64 qh, .int .i64 qa]) ∧ Below w'.heap.size w' w'') := fun w' => cEK' w'
  have cA3 : Hid (p = 3 → ∀ w' : World, Calls Tryd.prog 30 #[.agg #[.int .i64 1, .int .i64 h, .int .i64 d, .int .i64 p, .int .i64 qu, .int .i64 qs, .int .i64 qh, .int .i64 qa, .int .i64 0, .int .i64 ku, .int .i64 ks, .int .i64 kh, .int .i64 ka, .int .i64 0, .slice none 0 0]] w' fun e w'' => e = .returned (.bool zs) ∧ Below w'.heap.size w' w'') := fun hp w' => by
    have h1 := cS w'
    rw [r3 hp] at h1
    exact h1
  have cA4 : Hid (p ≠ 3 → ∀ w' : World, Calls Tryd.prog 30 #[.agg #[.int .i64 1, .int .i64 h, .int .i64 d, .int .i64 p, .int .i64 0, .int .i64 0, .int .i64 0, .int .i64 0, .int .i64 0, .int .i64 ku, .int .i64 ks, .int .i64 kh, .int .i64 ka, .int .i64 0, .slice none 0 0]] w' fun e w'' => e = .returned (.bool zs) ∧ Below w'.heap.size w' w'') := fun hp w' => by
    have h1 := cS w'
    rw [r4 hp] at h1
    exact h1
  generalize newSeatV h d p s = out at G1' G2' ⊢
  generalize newSeatB h d p s = ob at G1' G2' ⊢
  have G1 := Lib.hid G1'
  have G3 : Hid (p = 3 → zs = true → out = ⟨1, h, d, p, ⟨⟨qu, qs, qh, qa⟩, 0⟩, ⟨⟨ku, ks, kh, ka⟩, 0⟩⟩ ∧ ob = true) := fun hp b => by
    have h1 := G2' b
    rw [r3 hp] at h1
    exact h1
  have G4 : Hid (p ≠ 3 → zs = true → out = ⟨1, h, d, p, .zero, ⟨⟨ku, ks, kh, ka⟩, 0⟩⟩ ∧ ob = true) := fun hp b => by
    have h1 := G2' b
    rw [r4 hp] at h1
    exact h1
  clear G1' G2' cFK' cEK' cS r3 r4
  obtain ⟨W0, hW0⟩ : ∃ W, w.alloc (.cells #[.int .i64 0, .int .i64 0, .int .i64 0, .int .i64 0, .int .i64 0, .int .i64 0, .int .i64 0, .int .i64 0, .int .i64 0, .int .i64 0, .int .i64 0, .int .i64 0, .int .i64 0, .int .i64 0, .slice none 0 0] 32) = W := ⟨_, rfl⟩
  have K0 : Hid (Below w.heap.size w W0) := by rw [← hW0]; exact (Below.refl _ w).alloc (Nat.le_refl _) _
  have R0 : Hid (W0.heap[w.heap.size]? = some (.cells #[.int .i64 0, .int .i64 0, .int .i64 0, .int .i64 0, .int .i64 0, .int .i64 0, .int .i64 0, .int .i64 0, .int .i64 0, .int .i64 0, .int .i64 0, .int .i64 0, .int .i64 0, .int .i64 0, .slice none 0 0] 32)) := by rw [← hW0]; exact heap1 w _
  go_enter Tryd.func7, Tryd.ntmps7
  obtain ⟨V1, hV1⟩ : ∃ V, W0.alloc (.cells #[.int .i64 0, .int .i64 0, .int .i64 0, .int .i64 0, .int .i64 0, .int .i64 0, .int .i64 0, .int .i64 0, .int .i64 0, .int .i64 0, .int .i64 0, .int .i64 0, .int .i64 0, .int .i64 0, .slice none 0 0] 32) = V := ⟨_, rfl⟩
  have ltV1R : w.heap.size < W0.heap.size := blk_in R0.out
  have R1 : Hid (V1.heap[w.heap.size]? = some (.cells #[.int .i64 0, .int .i64 0, .int .i64 0, .int .i64 0, .int .i64 0, .int .i64 0, .int .i64 0, .int .i64 0, .int .i64 0, .int .i64 0, .int .i64 0, .int .i64 0, .int .i64 0, .int .i64 0, .slice none 0 0] 32)) := by rw [← hV1]; exact alloc_blk R0.out
  have hb : Below W0.heap.size W0 V1 := by rw [← hV1]; exact (Below.refl _ W0).alloc (Nat.le_refl _) _
  have K1 := Lib.hid (K0.out.trans (hb.mono K0.out.size))
  have A1 : Hid (V1.heap[W0.heap.size]? = some (.cells #[.int .i64 0, .int .i64 0, .int .i64 0, .int .i64 0, .int .i64 0, .int .i64 0, .int .i64 0, .int .i64 0, .int .i64 0, .int .i64 0, .int .i64 0, .int .i64 0, .int .i64 0, .int .i64 0, .slice none 0 0] 32)) := by rw [← hV1]; exact heap1 W0 _
  have lbV1 : w.heap.size ≤ W0.heap.size := K0.out.size
  clear hb R0 K0
  have R2 : Hid ((V1.setRow W0.heap.size #[.int .i64 1, .int .i64 h, .int .i64 d, .int .i64 p, .int .i64 0, .int .i64 0, .int .i64 0, .int .i64 0, .int .i64 0, .int .i64 0, .int .i64 0, .int .i64 0, .int .i64 0, .int .i64 0, .slice none 0 0]).heap[w.heap.size]? = some (.cells #[.int .i64 0, .int .i64 0, .int .i64 0, .int .i64 0, .int .i64 0, .int .i64 0, .int .i64 0, .int .i64 0, .int .i64 0, .int .i64 0, .int .i64 0, .int .i64 0, .int .i64 0, .int .i64 0, .slice none 0 0] 32)) := (setRow_other _ _ _ _ (by omega)).trans R1.out
  have A2 : Hid ((V1.setRow W0.heap.size #[.int .i64 1, .int .i64 h, .int .i64 d, .int .i64 p, .int .i64 0, .int .i64 0, .int .i64 0, .int .i64 0, .int .i64 0, .int .i64 0, .int .i64 0, .int .i64 0, .int .i64 0, .int .i64 0, .slice none 0 0]).heap[W0.heap.size]? = some (.cells #[.int .i64 1, .int .i64 h, .int .i64 d, .int .i64 p, .int .i64 0, .int .i64 0, .int .i64 0, .int .i64 0, .int .i64 0, .int .i64 0, .int .i64 0, .int .i64 0, .int .i64 0, .int .i64 0, .slice none 0 0] 32)) := setRow_heap _ _ _ _ _ _ A1.out
  have K2 : Hid (Below w.heap.size w (V1.setRow W0.heap.size #[.int .i64 1, .int .i64 h, .int .i64 d, .int .i64 p, .int .i64 0, .int .i64 0, .int .i64 0, .int .i64 0, .int .i64 0, .int .i64 0, .int .i64 0, .int .i64 0, .int .i64 0, .int .i64 0, .slice none 0 0])) := below_setRow K1.out (by omega) _
  go_wp2_with (refine wpList_store_row rfl 32 _ _ rfl (W0.heap.size) #[.int .i64 1, .int .i64 h, .int .i64 d, .int .i64 p, .int .i64 0, .int .i64 0, .int .i64 0, .int .i64 0, .int .i64 0, .int .i64 0, .int .i64 0, .int .i64 0, .int .i64 0, .int .i64 0, .slice none 0 0] rfl rfl 32 _ A1.out (by kernel_rfl) rfl (by simp [Value.oneCell']) ?_)
  clear hW0 hV1 R1 A1 K1
  generalize V1.setRow W0.heap.size #[.int .i64 1, .int .i64 h, .int .i64 d, .int .i64 p, .int .i64 0, .int .i64 0, .int .i64 0, .int .i64 0, .int .i64 0, .int .i64 0, .int .i64 0, .int .i64 0, .int .i64 0, .int .i64 0, .slice none 0 0] = S2 at R2 A2 K2 ⊢
  refine (cFK.out _).mono ?_
  rintro e w3 ⟨rfl, hb⟩
  have R3 := Lib.hid (blk_on hb R2.out)
  have A3 := Lib.hid (blk_on hb A2.out)
  have K3 := Lib.hid (K2.out.trans (hb.mono K2.out.size))
  clear hb R2 A2 K2
  obtain ⟨⟨a0, a1, a2, a3, a4, a5, a6, a7, a8, a9, a10, a11, a12, a13, a14⟩, az0, az1, az2, az3, az4, az5, az6, az7, az8, az9, az10, az11, az12, az13, az14⟩ := blk15 A3.out
  obtain ⟨S4, qS4⟩ : ∃ W, setAll w3 W0.heap.size 9 [.int .i64 ku, .int .i64 ks, .int .i64 kh, .int .i64 ka] = W := ⟨_, rfl⟩
  have hS4 : ((((w3.setCell ⟨W0.heap.size, 9, none⟩ (.int .i64 ku)).setCell ⟨W0.heap.size, 10, none⟩ (.int .i64 ks)).setCell ⟨W0.heap.size, 11, none⟩ (.int .i64 kh)).setCell ⟨W0.heap.size, 12, none⟩ (.int .i64 ka)) = S4 := qS4
  have R4 : Hid (S4.heap[w.heap.size]? = some (.cells #[.int .i64 0, .int .i64 0, .int .i64 0, .int .i64 0, .int .i64 0, .int .i64 0, .int .i64 0, .int .i64 0, .int .i64 0, .int .i64 0, .int .i64 0, .int .i64 0, .int .i64 0, .int .i64 0, .slice none 0 0] 32)) := by rw [← qS4]; exact setAll_away (by omega) _ _ R3.out
  have A4 : Hid (S4.heap[W0.heap.size]? = some (.cells #[.int .i64 1, .int .i64 h, .int .i64 d, .int .i64 p, .int .i64 0, .int .i64 0, .int .i64 0, .int .i64 0, .int .i64 0, .int .i64 ku, .int .i64 ks, .int .i64 kh, .int .i64 ka, .int .i64 0, .slice none 0 0] 32)) := by
    rw [← qS4]
    refine (setAll_blk (w := w3) (g := W0.heap.size) [.int .i64 ku, .int .i64 ks, .int .i64 kh, .int .i64 ka] 9 A3.out).trans ?_
    refine congrArg (fun z => some (Obj.cells z 32 (0, 0))) (Array.toList_inj.1 ?_)
    rw [overA_toList _ _ _ (by simp)]
    rfl
  have K4 : Hid (Below w.heap.size w S4) := by rw [← qS4]; exact setAll_below (g := W0.heap.size) (by omega) [.int .i64 ku, .int .i64 ks, .int .i64 kh, .int .i64 ka] 9 K3.out
  have zS4 : w3.heap.size = S4.heap.size := by rw [← qS4]; exact (setAll_size [.int .i64 ku, .int .i64 ks, .int .i64 kh, .int .i64 ka] 9 _).symm
  clear qS4 R3 A3 K3
  by_cases hp : p = 3
  ·
    have hp' : (p == 3) = true := beq_int hp
    have HA3 := Lib.hid (cA3.out hp)
    have HG3 := Lib.hid (G3.out hp)
    clear hp cA3 cA4 G3 G4
    go_wp2_with fail
    clear a0 a1 a2 a3 a4 a5 a6 a7 a8 a9 a10 a11 a12 a13 a14 az0 az1 az2 az3 az4 az5 az6 az7 az8 az9 az10 az11 az12 az13 az14
    clear hS4
    refine (cEK.out _).mono ?_
    rintro e w5 ⟨rfl, hb⟩
    have R5 := Lib.hid (blk_on hb R4.out)
    have A5 := Lib.hid (blk_on hb A4.out)
    have K5 := Lib.hid (K4.out.trans (hb.mono K4.out.size))
    clear hb R4 A4 K4
    obtain ⟨⟨b0, b1, b2, b3, b4, b5, b6, b7, b8, b9, b10, b11, b12, b13, b14⟩, bz0, bz1, bz2, bz3, bz4, bz5, bz6, bz7, bz8, bz9, bz10, bz11, bz12, bz13, bz14⟩ := blk15 A5.out
    obtain ⟨S6, qS6⟩ : ∃ W, setAll w5 W0.heap.size 4 [.int .i64 qu, .int .i64 qs, .int .i64 qh, .int .i64 qa] = W := ⟨_, rfl⟩
    have hS6 : ((((w5.setCell ⟨W0.heap.size, 4, none⟩ (.int .i64 qu)).setCell ⟨W0.heap.size, 5, none⟩ (.int .i64 qs)).setCell ⟨W0.heap.size, 6, none⟩ (.int .i64 qh)).setCell ⟨W0.heap.size, 7, none⟩ (.int .i64 qa)) = S6 := qS6
    have R6 : Hid (S6.heap[w.heap.size]? = some (.cells #[.int .i64 0, .int .i64 0, .int .i64 0, .int .i64 0, .int .i64 0, .int .i64 0, .int .i64 0, .int .i64 0, .int .i64 0, .int .i64 0, .int .i64 0, .int .i64 0, .int .i64 0, .int .i64 0, .slice none 0 0] 32)) := by rw [← qS6]; exact setAll_away (by omega) _ _ R5.out
    have A6 : Hid (S6.heap[W0.heap.size]? = some (.cells #[.int .i64 1, .int .i64 h, .int .i64 d, .int .i64 p, .int .i64 qu, .int .i64 qs, .int .i64 qh, .int .i64 qa, .int .i64 0, .int .i64 ku, .int .i64 ks, .int .i64 kh, .int .i64 ka, .int .i64 0, .slice none 0 0] 32)) := by
      rw [← qS6]
      refine (setAll_blk (w := w5) (g := W0.heap.size) [.int .i64 qu, .int .i64 qs, .int .i64 qh, .int .i64 qa] 4 A5.out).trans ?_
      refine congrArg (fun z => some (Obj.cells z 32 (0, 0))) (Array.toList_inj.1 ?_)
      rw [overA_toList _ _ _ (by simp)]
      rfl
    have K6 : Hid (Below w.heap.size w S6) := by rw [← qS6]; exact setAll_below (g := W0.heap.size) (by omega) [.int .i64 qu, .int .i64 qs, .int .i64 qh, .int .i64 qa] 4 K5.out
    have zS6 : w5.heap.size = S6.heap.size := by rw [← qS6]; exact (setAll_size [.int .i64 qu, .int .i64 qs, .int .i64 qh, .int .i64 qa] 4 _).symm
    clear qS6 R5 A5 K5
    go_upto_region 5 with fail
    try rw [hS6]
    clear b0 b1 b2 b3 b4 b5 b6 b7 b8 b9 b10 b11 b12 b13 b14 bz0 bz1 bz2 bz3 bz4 bz5 bz6 bz7 bz8 bz9 bz10 bz11 bz12 bz13 bz14
    clear hS6
    go_wp2_with (refine wpList_load_row rfl 32 _ rfl (W0.heap.size) rfl 32 _ (0, 0) _ A6.out Tryd.underlying32 rfl (by kernel_rfl) ?_)
    refine (HA3.out _).mono ?_
    rintro e w7 ⟨rfl, hb⟩
    have R7 := Lib.hid (blk_on hb R6.out)
    have A7 := Lib.hid (blk_on hb A6.out)
    have K7 := Lib.hid (K6.out.trans (hb.mono K6.out.size))
    clear hb R6 A6 K6
    cases zs with
    | false =>
      have HE := Lib.hid (G1.out rfl)
      go_wp2_with (refine wpList_store_row rfl 32 _ _ rfl (w.heap.size) #[.int .i64 0, .int .i64 0, .int .i64 0, .int .i64 0, .int .i64 0, .int .i64 0, .int .i64 0, .int .i64 0, .int .i64 0, .int .i64 0, .int .i64 0, .int .i64 0, .int .i64 0, .int .i64 0, .slice none 0 0] rfl rfl 32 _ R7.out (by kernel_rfl) rfl (by simp [Value.oneCell']) ?_)
      exact row_ret2 (r := w.heap.size) (cs := #[.int .i64 0, .int .i64 0, .int .i64 0, .int .i64 0, .int .i64 0, .int .i64 0, .int .i64 0, .int .i64 0, .int .i64 0, .int .i64 0, .int .i64 0, .int .i64 0, .int .i64 0, .int .i64 0, .slice none 0 0]) rfl rfl rfl (setRow_heap _ _ _ _ _ _ R7.out) Tryd.underlying32 rfl (by kernel_rfl) rfl ⟨none, 0, by rw [HE.out.1, HE.out.2]; rfl, .inl ⟨rfl, rfl, rfl, rfl⟩, below_setRow K7.out (by omega) _⟩
    | true =>
      have HE := Lib.hid (HG3.out rfl)
      go_wp2_with (first | (refine wpList_load_row rfl 32 _ rfl (W0.heap.size) rfl 32 _ (0, 0) _ A7.out Tryd.underlying32 rfl (by kernel_rfl) ?_) | (refine wpList_store_row rfl 32 _ _ rfl (w.heap.size) #[.int .i64 1, .int .i64 h, .int .i64 d, .int .i64 p, .int .i64 qu, .int .i64 qs, .int .i64 qh, .int .i64 qa, .int .i64 0, .int .i64 ku, .int .i64 ks, .int .i64 kh, .int .i64 ka, .int .i64 0, .slice none 0 0] rfl rfl 32 _ R7.out (by kernel_rfl) rfl (by simp [Value.oneCell']) ?_))
      exact row_ret2 (r := w.heap.size) (cs := #[.int .i64 1, .int .i64 h, .int .i64 d, .int .i64 p, .int .i64 qu, .int .i64 qs, .int .i64 qh, .int .i64 qa, .int .i64 0, .int .i64 ku, .int .i64 ks, .int .i64 kh, .int .i64 ka, .int .i64 0, .slice none 0 0]) rfl rfl rfl (setRow_heap _ _ _ _ _ _ R7.out) Tryd.underlying32 rfl (by kernel_rfl) rfl ⟨none, 0, by rw [HE.out.1, HE.out.2]; rfl, .inl ⟨rfl, rfl, rfl, rfl⟩, below_setRow K7.out (by omega) _⟩
  ·
    have hp' : (p == 3) = false := bne_int hp
    have HA3 := Lib.hid (cA4.out hp)
    have HG3 := Lib.hid (G4.out hp)
    clear hp cA3 cA4 G3 G4
    go_upto_region 5 with fail
    try rw [hS4]
    clear a0 a1 a2 a3 a4 a5 a6 a7 a8 a9 a10 a11 a12 a13 a14 az0 az1 az2 az3 az4 az5 az6 az7 az8 az9 az10 az11 az12 az13 az14
    clear hS4
    go_wp2_with (refine wpList_load_row rfl 32 _ rfl (W0.heap.size) rfl 32 _ (0, 0) _ A4.out Tryd.underlying32 rfl (by kernel_rfl) ?_)
    refine (HA3.out _).mono ?_
    rintro e w5 ⟨rfl, hb⟩
    have R5 := Lib.hid (blk_on hb R4.out)
    have A5 := Lib.hid (blk_on hb A4.out)
    have K5 := Lib.hid (K4.out.trans (hb.mono K4.out.size))
    clear hb R4 A4 K4
    cases zs with
    | false =>
      have HE := Lib.hid (G1.out rfl)
      go_wp2_with (refine wpList_store_row rfl 32 _ _ rfl (w.heap.size) #[.int .i64 0, .int .i64 0, .int .i64 0, .int .i64 0, .int .i64 0, .int .i64 0, .int .i64 0, .int .i64 0, .int .i64 0, .int .i64 0, .int .i64 0, .int .i64 0, .int .i64 0, .int .i64 0, .slice none 0 0] rfl rfl 32 _ R5.out (by kernel_rfl) rfl (by simp [Value.oneCell']) ?_)
      exact row_ret2 (r := w.heap.size) (cs := #[.int .i64 0, .int .i64 0, .int .i64 0, .int .i64 0, .int .i64 0, .int .i64 0, .int .i64 0, .int .i64 0, .int .i64 0, .int .i64 0, .int .i64 0, .int .i64 0, .int .i64 0, .int .i64 0, .slice none 0 0]) rfl rfl rfl (setRow_heap _ _ _ _ _ _ R5.out) Tryd.underlying32 rfl (by kernel_rfl) rfl ⟨none, 0, by rw [HE.out.1, HE.out.2]; rfl, .inl ⟨rfl, rfl, rfl, rfl⟩, below_setRow K5.out (by omega) _⟩
    | true =>
      have HE := Lib.hid (HG3.out rfl)
      go_wp2_with (first | (refine wpList_load_row rfl 32 _ rfl (W0.heap.size) rfl 32 _ (0, 0) _ A5.out Tryd.underlying32 rfl (by kernel_rfl) ?_) | (refine wpList_store_row rfl 32 _ _ rfl (w.heap.size) #[.int .i64 1, .int .i64 h, .int .i64 d, .int .i64 p, .int .i64 0, .int .i64 0, .int .i64 0, .int .i64 0, .int .i64 0, .int .i64 ku, .int .i64 ks, .int .i64 kh, .int .i64 ka, .int .i64 0, .slice none 0 0] rfl rfl 32 _ R5.out (by kernel_rfl) rfl (by simp [Value.oneCell']) ?_))
      exact row_ret2 (r := w.heap.size) (cs := #[.int .i64 1, .int .i64 h, .int .i64 d, .int .i64 p, .int .i64 0, .int .i64 0, .int .i64 0, .int .i64 0, .int .i64 0, .int .i64 ku, .int .i64 ks, .int .i64 kh, .int .i64 ka, .int .i64 0, .slice none 0 0]) rfl rfl rfl (setRow_heap _ _ _ _ _ _ R5.out) Tryd.underlying32 rfl (by kernel_rfl) rfl ⟨none, 0, by rw [HE.out.1, HE.out.2]; rfl, .inl ⟨rfl, rfl, rfl, rfl⟩, below_setRow K5.out (by omega) _⟩

set_option maxRecDepth 100000 in
set_option maxHeartbeats 8000000 in
theorem LogOf_impl (s : SeatV) (A : Option Addr) (n cap : Nat) (l : List WordV) (w : World) (h : EltsO w w.heap.size A n l) (hn : n ≤ 1048576) :
    Calls Tryd.prog 17 #[s.val A n cap] w fun e w' => ∃ gb cb, e = .returned (.slice (some ⟨gb, 0, none⟩) (l.map WordV.t).length cb) ∧ MadeE w' w.heap.size 9 (l.map WordV.t) gb cb ∧ Below w.heap.size w w' := by
  obtain ⟨i0, by0, hi, hz0, hz1, hz2, hby⟩ := infoStrE
  have E := Lib.hid h
  clear h
  obtain ⟨st, sh, sd, sp, ⟨⟨eu, es, eh, ea⟩, en⟩, ⟨⟨fu, fs, fh, fa⟩, fn⟩⟩ := s
  have HV : Hid (SeatV.val ⟨st, sh, sd, sp, ⟨⟨eu, es, eh, ea⟩, en⟩, ⟨⟨fu, fs, fh, fa⟩, fn⟩⟩ A n cap = .agg #[.int .i64 st, .int .i64 sh, .int .i64 sd, .int .i64 sp, .int .i64 eu, .int .i64 es, .int .i64 eh, .int .i64 ea, .int .i64 en, .int .i64 fu, .int .i64 fs, .int .i64 fh, .int .i64 fa, .int .i64 fn, .slice A n cap]) := rfl
  rw [HV.out]
  clear HV
  obtain ⟨W0, hW0⟩ : ∃ W, w.alloc (.cells #[.int .i64 st, .int .i64 sh, .int .i64 sd, .int .i64 sp, .int .i64 eu, .int .i64 es, .int .i64 eh, .int .i64 ea, .int .i64 en, .int .i64 fu, .int .i64 fs, .int .i64 fh, .int .i64 fa, .int .i64 fn, .slice A n cap] 32) = W := ⟨_, rfl⟩
  have K0 : Hid (Below w.heap.size w W0) := by rw [← hW0]; exact (Below.refl _ w).alloc (Nat.le_refl _) _
  have zW0 : W0.heap.size = w.heap.size + 1 := by rw [← hW0]; simp
  have S0 : Hid (W0.heap[w.heap.size]? = some (.cells #[.int .i64 st, .int .i64 sh, .int .i64 sd, .int .i64 sp, .int .i64 eu, .int .i64 es, .int .i64 eh, .int .i64 ea, .int .i64 en, .int .i64 fu, .int .i64 fs, .int .i64 fh, .int .i64 fa, .int .i64 fn, .slice A n cap] 32)) := by rw [← hW0]; exact heap1 w _
  obtain ⟨⟨a0, a1, a2, a3, a4, a5, a6, a7, a8, a9, a10, a11, a12, a13, a14⟩, _⟩ := blk15 S0.out
  go_enter Tryd.func17, Tryd.ntmps17
  go_wp2
  clear hW0
  go_loopw [3, 10] (fun v i wr => ∃ (k gb cb : Nat), k ≤ n ∧ i = .int .i64 k ∧ v = .slice (some ⟨gb, 0, none⟩) ((l.take k).map WordV.t).length cb ∧ MadeE wr (w.heap.size + 1) 9 ((l.take k).map WordV.t) gb cb ∧ Below w.heap.size w wr) (fun _ i _ => n - (intOf i).toNat)
  case atStart => exact ⟨0, W0.heap.size, 0, Nat.zero_le _, rfl, by simp, madeG_nil (heap1 W0 _) (by rw [zW0]; exact Nat.le_refl _), K0.out.alloc K0.out.size _⟩
  case round =>
    obtain ⟨k, gb, cb, hk, rfl, rfl, hM, hB⟩ := hrel
    obtain ⟨out, hout⟩ : ∃ x, (l.take k).map WordV.t = x := ⟨_, rfl⟩
    have holen : out.length ≤ n := by rw [← hout, List.length_map, List.length_take]; omega
    rw [hout] at hM ⊢
    have HO := Lib.hid hout
    have HM := Lib.hid hM
    have HB := Lib.hid hB
    have hgb := hM.base
    have hsB := hB.size
    clear hout hM hB
    by_cases hlt : k < n
    · obtain ⟨b, off, rfl, hb, hc⟩ := E.out.2 (by omega)
      obtain ⟨⟨xt, xp⟩, hx⟩ : ∃ x, l[k]? = some x := ⟨_, List.getElem?_eq_getElem (by rw [E.out.1]; exact hlt)⟩
      have g1 : At w b (off + k * 2) _ := hc k _ hx
      obtain ⟨c0, c1⟩ := word_at (g1.heap (HB.out.block b hb))
      dsimp only at c0 c1
      have hk0 : (0 : Int) ≤ (k : Int) := by omega
      have hkn : (k : Int) < (n : Int) := by omega
      have HT : Hid ((l.take (k + 1)).map WordV.t = out ++ [xt]) := by show _ = _; rw [text_step hx, HO.out]
      clear hx hc g1
      obtain ⟨wv, hwv⟩ : ∃ V, wr.alloc (.cells #[.string xt, .bool xp] 69) = V := ⟨_, rfl⟩
      have HMv : Hid (MadeE wv (w.heap.size + 1) 9 out gb cb) := by rw [← hwv]; exact HM.out.below ((Below.refl _ wr).alloc (Nat.le_refl _) _)
      have HBv : Hid (Below w.heap.size w wv) := by rw [← hwv]; exact HB.out.alloc HB.out.size _
      have X1 : Hid (wv.heap[wr.heap.size]? = some (.cells #[.string xt, .bool xp] 69)) := by rw [← hwv]; exact heap1 wr _
      have zwv : wr.heap.size < wv.heap.size := blk_in X1.out
      obtain ⟨⟨x0, x1⟩, _⟩ := blk2 X1.out
      go_wp2_with (at_builtin; refine wpList_append_own _ rfl _ _ 36 rfl (w.heap.size + 1) 9 i0 (.string ⟨#[]⟩) 1 by0 Tryd.underlying36 hi hz0 hz1 hz2 rfl (by decide) _ _ _ rfl (HMv.out.own.alloc _) ⟨wv.heap.size, 0, none⟩ 1 1 ([xt].flatMap Cells.cells) rfl rfl (cells_new wv ([.string xt]) _) flat_one (by unfold maxLen; omega) (Nat.le_trans (Nat.mul_le_mul (by omega : out.length + 1 ≤ 1048577) hby) (by decide)) (by simp; omega) ?_; intro v' w3 hown' hgrow hiff; have h9 := made_app (l := out) (l2 := [xt]) (n := out.length) (m := 1) (gb := gb) (cb := cb) hown' rfl rfl hiff; obtain ⟨gb', cb', rfl, hM'⟩ := h9; have HM' := Lib.hid hM'; have HGR := Lib.hid hgrow; clear hown' hgrow hM' hiff)
      go_roundw
      case rel => exact ⟨k + 1, gb', cb', by omega, by go_num, by rw [HT.out]; first | rfl | simp, by rw [HT.out]; exact HM'.out, (HBv.out.alloc HBv.out.size _).grown HGR.out (by simp; omega) (by intro k' e; have e1 := Option.some.inj e; dsimp only at e1; omega)⟩
      case measure => simp [intOf]; omega
    · obtain rfl : k = n := by omega
      have hlt' : ¬ (k : Int) < (k : Int) := by omega
      have hR : Hid (out = l.map WordV.t) := by show _ = _; rw [← HO.out, List.take_of_length_le (by rw [E.out.1]; omega)]
      go_wp2
      go_ret
      exact ⟨gb, cb, by rw [hR.out, List.length_map]; rfl, by rw [← hR.out]; exact HM.out.mono (by omega), HB.out⟩

theorem wordEarly_any (q : WordV) (w : World) : Calls Tryd.prog 125 #[q.val] w fun e w' => e = .returned (.bool q.e) ∧ Below w.heap.size w w' := by
  obtain ⟨xt, xp⟩ := q
  have HV : Hid (WordV.val ⟨xt, xp⟩ = .agg #[.string xt, .bool xp]) := rfl
  rw [HV.out]
  obtain ⟨W0, hW0⟩ : ∃ W, w.alloc (.cells #[.string xt, .bool xp] 69) = W := ⟨_, rfl⟩
  have K0 : Hid (Below w.heap.size w W0) := by rw [← hW0]; exact (Below.refl _ w).alloc (Nat.le_refl _) _
  have S0 : Hid (W0.heap[w.heap.size]? = some (.cells #[.string xt, .bool xp] 69)) := by rw [← hW0]; exact heap1 w _
  obtain ⟨⟨a0, a1⟩, _⟩ := blk2 S0.out
  go_enter Tryd.func125, Tryd.ntmps125
  go_wp2
  go_ret
  exact ⟨rfl, K0.out⟩

end Go.Proofs.YtchdmmlkgglmcaaDoor.Tx

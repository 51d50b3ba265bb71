/-
  The law FnExactNoted returns true at every Memory and number, and they read behind the call as they read before: Noted of the program and of the model answer alike, in memory of the call's own. No condition.
-/
import Derived.Test.YtdpdbidjbidmaaaRows
import Derived.WalkKit
import Derived.ProofKit
import Derived.OpenShut
import Derived.ShutString
import Derived.ChangeOld
import Derived.Below
import Derived.SliceStrings
import Derived.Lib.SmallJoins
import Derived.Test.YtdpdbidjbidmaaaOpen8
import Derived.Test.YtdpdbidjbidmaaaImpl8d
namespace Go.Proofs.Ytdpdbidjbidmaaa.fnExactNoted
open Go.ChangeShapes Go.WideShapes Go.ChangeAt Go.RowKit
open Go.ChangeMaps (open_string shut_string)
set_option linter.unusedVariables false

set_option maxRecDepth 100000 in
set_option maxHeartbeats 16000000 in
theorem walk (w : World) (A : Option Addr) (n cap : Nat) (z : List Int) (s : Int) (h : Tx.Nums w w.heap.size A n z) (hl : n ≤ maxLen) (hi : Tx.AllI64 z) (x : Int) (_ : (Lit.int .i64 x).wf = true) :
    Calls Try.prog 7 #[.agg #[.slice A n cap, .int .i64 s], .int .i64 x] w fun e w' => e = .returned (.bool true) ∧ Below w.heap.size w w' := by
  have hl' : n ≤ 9223372036854775807 := by have e : (2 : Nat) ^ 63 - 1 = 9223372036854775807 := rfl; rw [← e]; exact hl
  clear hl
  obtain ⟨W0, hW0⟩ : ∃ W, w.alloc (.cells #[.slice A n cap, .int .i64 s] 40) = W := ⟨_, rfl⟩
  have K : Hid (Below w.heap.size w W0) := by rw [← hW0]; exact (Below.refl _ w).alloc (Nat.le_refl _) _
  have AM : Hid (W0.heap[w.heap.size]? = some (.cells #[.slice A n cap, .int .i64 s] 40)) := by rw [← hW0]; exact Tx.heap1 w _
  have t0 : w.heap.size < W0.heap.size := by rw [← hW0]; simp
  have AR := Lib.hid (h.below K.out)
  have HI := Lib.hid hi
  clear h hi
  have cZ := Tx.szMemory_any A n cap s W0 hl'
  by_cases hbig : 1048576 < n
  · rw [if_pos hbig] at cZ
    obtain ⟨⟨a0, a1⟩, _⟩ := Tx.blk2 AM.out
    go_enter Try.func7, Try.ntmps7
    go_wp2_with fail
    clear hW0 a0 a1
    refine cZ.mono ?_
    rintro e w1 ⟨rfl, b⟩
    go_wp2
    go_ret
    exact ⟨rfl, K.out.trans (b.mono K.out.size)⟩
  rw [if_neg hbig] at cZ
  have hn : n ≤ 1048576 := by omega
  have hz0 : ¬ (1048576 - (n : Int)) < 0 := by omega
  clear hbig
  generalize (1048576 - (n : Int)) = lf at cZ hz0
  obtain ⟨out, hout⟩ : ∃ o, Tx.notedL z s x = o := ⟨_, rfl⟩
  have hol : out.length ≤ 1048576 := by rw [← hout]; exact Nat.le_trans (Tx.notedL_nodup z s x).2 (by omega)
  obtain ⟨t, ht⟩ : ∃ o, Tx.sinceI z s = o := ⟨_, rfl⟩
  obtain ⟨y, hy⟩ : ∃ o, Tx.notedB z s x = o := ⟨_, rfl⟩
  have hyy : (y != y) = false := by simp
  have cS : Hid (∀ (w' : World) (g : Nat), Tx.Nums w' w'.heap.size (some ⟨g, 0, none⟩) n z → Calls Try.prog 21 #[.agg #[.slice (some ⟨g, 0, none⟩) n n, .int .i64 s], .int .i64 x] w' fun e w'' => ∃ (B : Option Addr) (c : Nat), e = .returned (.tuple #[.agg #[.slice B out.length c, .int .i64 t], .bool y]) ∧ Tx.OwnN w'' w'.heap.size out B out.length c ∧ Below w'.heap.size w' w'') := fun w' g hN => by
    have h1 := Tx.Noted_spec _ n n z s x w' hN (fun e => by cases e) hn
    rw [ht, hy, hout] at h1
    exact h1.mono fun e w'' ⟨B, m, c, he, ho, hb⟩ => by obtain rfl := ho.len; exact ⟨B, c, he, ho, hb⟩
  have cI : Hid (∀ (w' : World) (g : Nat), Tx.Nums w' w'.heap.size (some ⟨g, 0, none⟩) n z → Calls Try.prog 13 #[.agg #[.slice (some ⟨g, 0, none⟩) n n, .int .i64 s], .int .i64 x] w' fun e w'' => ∃ (B : Option Addr) (c : Nat), e = .returned (.tuple #[.agg #[.slice B out.length c, .int .i64 t], .bool y]) ∧ Tx.OwnN w'' w'.heap.size out B out.length c ∧ Below w'.heap.size w' w'') := fun w' g hN => by
    have h1 := Tx.Noted_impl _ n n z s x w' hN HI.out hn
    rw [ht, hy, hout] at h1
    exact h1.mono fun e w'' ⟨B, m, c, he, ho, hb⟩ => by obtain rfl := ho.len; exact ⟨B, c, he, ho, hb⟩
  clear hout ht hy HI
  obtain ⟨⟨a0, a1⟩, _⟩ := Tx.blk2 AM.out
  go_enter Try.func7, Try.ntmps7
  go_wp2_with fail
  clear hW0 a0 a1
  refine cZ.mono ?_
  rintro e w1 ⟨rfl, b⟩
  have t1 := b.size
  replace AM := Lib.hid (Tx.blk_on b AM.out)
  replace AR := Lib.hid (AR.out.below (b.mono K.out.size))
  replace K := Lib.hid (K.out.trans (b.mono K.out.size))
  clear b
  clear cZ
  obtain ⟨⟨a0, a1⟩, _⟩ := Tx.blk2 AM.out
  go_wp2_with fail
  clear a0 a1
  refine (Tx.toMemory_any A n cap z s _ (AR.out.mono K.out.size) hn).mono ?_
  rintro e w2 ⟨gm, rfl, m, b⟩
  have M0 := Lib.hid m
  have hlM : ∀ k, Tx.blkN (some ⟨gm, 0, none⟩) = some k → w1.heap.size ≤ k ∧ k < w2.heap.size := fun k e => m.lt e
  clear m
  have t2 := b.size
  replace AM := Lib.hid (Tx.blk_on b AM.out)
  replace AR := Lib.hid (AR.out.below (b.mono K.out.size))
  replace K := Lib.hid (K.out.trans (b.mono K.out.size))
  clear b
  have M := M0
  clear M0
  go_wp2_with fail
  refine (cS.out _ _ M.out.nums).mono ?_
  rintro e w3 ⟨B, c, rfl, ho, b⟩
  have P0 := Lib.hid ho
  have hlP : ∀ k, Tx.blkN B = some k → w2.heap.size ≤ k ∧ k < w3.heap.size := fun k e => ho.lt e
  clear ho
  have t3 := b.size
  replace AM := Lib.hid (Tx.blk_on b AM.out)
  replace AR := Lib.hid (AR.out.below (b.mono K.out.size))
  replace K := Lib.hid (K.out.trans (b.mono K.out.size))
  replace M := Lib.hid (M.out.on b)
  clear b
  have P := P0
  clear P0
  clear M hlM
  clear cS
  obtain ⟨W4, hW4⟩ : ∃ W, w3.alloc (.cells #[.slice B out.length c, .int .i64 t] 26) = W := ⟨_, rfl⟩
  have b : Below w3.heap.size w3 W4 := hW4 ▸ (Below.refl _ w3).alloc (Nat.le_refl _) _
  have GW0 : Hid (W4.heap[w3.heap.size]? = some (.cells #[.slice B out.length c, .int .i64 t] 26)) := by rw [← hW4]; exact Tx.heap1 w3 _
  have uW4 : w3.heap.size < W4.heap.size := by rw [← hW4]; simp
  have t4 := b.size
  replace AM := Lib.hid (Tx.blk_on b AM.out)
  replace AR := Lib.hid (AR.out.below (b.mono K.out.size))
  replace K := Lib.hid (K.out.trans (b.mono K.out.size))
  replace P := Lib.hid (P.out.on b)
  clear b
  have GW := GW0
  clear GW0
  obtain ⟨⟨a0, a1⟩, _⟩ := Tx.blk2 AM.out
  go_wp2_with fail
  clear a0 a1 hW4
  refine (Tx.toMemory_any A n cap z s _ (AR.out.mono K.out.size) hn).mono ?_
  rintro e w5 ⟨gx, rfl, m, b⟩
  have L0 := Lib.hid m
  have hlL : ∀ k, Tx.blkN (some ⟨gx, 0, none⟩) = some k → W4.heap.size ≤ k ∧ k < w5.heap.size := fun k e => m.lt e
  clear m
  have t5 := b.size
  replace AM := Lib.hid (Tx.blk_on b AM.out)
  replace AR := Lib.hid (AR.out.below (b.mono K.out.size))
  replace K := Lib.hid (K.out.trans (b.mono K.out.size))
  replace P := Lib.hid (P.out.on b)
  replace GW := Lib.hid (Tx.blk_on b GW.out)
  clear b
  have L := L0
  clear L0
  obtain ⟨W6, hW6⟩ : ∃ W, w5.alloc (.cells #[.slice (some ⟨gx, 0, none⟩) n n, .int .i64 s] 26) = W := ⟨_, rfl⟩
  have b : Below w5.heap.size w5 W6 := hW6 ▸ (Below.refl _ w5).alloc (Nat.le_refl _) _
  have GX0 : Hid (W6.heap[w5.heap.size]? = some (.cells #[.slice (some ⟨gx, 0, none⟩) n n, .int .i64 s] 26)) := by rw [← hW6]; exact Tx.heap1 w5 _
  have uW6 : w5.heap.size < W6.heap.size := by rw [← hW6]; simp
  have t6 := b.size
  replace AM := Lib.hid (Tx.blk_on b AM.out)
  replace AR := Lib.hid (AR.out.below (b.mono K.out.size))
  replace K := Lib.hid (K.out.trans (b.mono K.out.size))
  replace P := Lib.hid (P.out.on b)
  replace GW := Lib.hid (Tx.blk_on b GW.out)
  replace L := Lib.hid (L.out.on b)
  clear b
  have GX := GX0
  clear GX0
  obtain ⟨⟨c0, c1⟩, _⟩ := Tx.blk2 GX.out
  go_wp2_with fail
  clear c0 c1 hW6
  refine (cI.out _ _ L.out.nums).mono ?_
  rintro e w7 ⟨D, d, rfl, ho, b⟩
  have Q0 := Lib.hid ho
  have hlQ : ∀ k, Tx.blkN D = some k → W6.heap.size ≤ k ∧ k < w7.heap.size := fun k e => ho.lt e
  clear ho
  have t7 := b.size
  replace AM := Lib.hid (Tx.blk_on b AM.out)
  replace AR := Lib.hid (AR.out.below (b.mono K.out.size))
  replace K := Lib.hid (K.out.trans (b.mono K.out.size))
  replace P := Lib.hid (P.out.on b)
  replace GW := Lib.hid (Tx.blk_on b GW.out)
  replace L := Lib.hid (L.out.on b)
  replace GX := Lib.hid (Tx.blk_on b GX.out)
  clear b
  have Q := Q0
  clear Q0
  obtain ⟨W8, hW8⟩ : ∃ W, w7.alloc (.cells #[.slice D out.length d, .int .i64 t] 26) = W := ⟨_, rfl⟩
  have b : Below w7.heap.size w7 W8 := hW8 ▸ (Below.refl _ w7).alloc (Nat.le_refl _) _
  have GG0 : Hid (W8.heap[w7.heap.size]? = some (.cells #[.slice D out.length d, .int .i64 t] 26)) := by rw [← hW8]; exact Tx.heap1 w7 _
  have uW8 : w7.heap.size < W8.heap.size := by rw [← hW8]; simp
  have t8 := b.size
  replace AM := Lib.hid (Tx.blk_on b AM.out)
  replace AR := Lib.hid (AR.out.below (b.mono K.out.size))
  replace K := Lib.hid (K.out.trans (b.mono K.out.size))
  replace P := Lib.hid (P.out.on b)
  replace GW := Lib.hid (Tx.blk_on b GW.out)
  replace L := Lib.hid (L.out.on b)
  replace GX := Lib.hid (Tx.blk_on b GX.out)
  replace Q := Lib.hid (Q.out.on b)
  clear b
  have GG := GG0
  clear GG0
  obtain ⟨⟨c0, c1⟩, _⟩ := Tx.blk2 GG.out
  obtain ⟨⟨d0, d1⟩, _⟩ := Tx.blk2 GW.out
  go_wp2_with fail
  clear c0 c1 d0 d1 hW8
  refine (Tx.eqMemory_same D B out.length d c out t _ Q.out.nums P.out.nums hol).mono ?_
  rintro e w9 ⟨rfl, b⟩
  have t9 := b.size
  replace AM := Lib.hid (Tx.blk_on b AM.out)
  replace AR := Lib.hid (AR.out.below (b.mono K.out.size))
  replace K := Lib.hid (K.out.trans (b.mono K.out.size))
  replace P := Lib.hid (P.out.on b)
  replace GW := Lib.hid (Tx.blk_on b GW.out)
  replace L := Lib.hid (L.out.on b)
  replace GX := Lib.hid (Tx.blk_on b GX.out)
  replace Q := Lib.hid (Q.out.on b)
  replace GG := Lib.hid (Tx.blk_on b GG.out)
  clear b
  go_wp2
  refine Tx.wp_region_own (W := w9) [] (fun _ => True) Tx.stays_true trivial [0, 0, 1, 1, 0] (by kernel_rfl) (by kernel_rfl) (by kernel_rfl) ?_
  have fA : ∀ q : Tx.In (Tx.plainEnv w9 []), _ := fun q => (Tx.blk2 (q.block AM.out (by simp))).1
  have fX : ∀ q : Tx.In (Tx.plainEnv w9 []), _ := fun q => (Tx.blk2 (q.block GX.out (by simp))).1
  refine Tx.wpO_quiet 2 rfl (by kernel_rfl) ?_
  simp only [List.take, List.drop]
  repeat (go_big_quiet_step (fail))
  refine wpQuiet_nil ?_
  refine Tx.wpO_callx (f := 26) (args := #[.agg #[.slice A n cap, .int .i64 s]]) (α := Nat) (fun g => .agg #[.slice (some ⟨g, 0, none⟩) n n, .int .i64 s]) (fun g => [g]) (fun g w' => Tx.OwnN w' w9.heap.size z (some ⟨g, 0, none⟩) n n) rfl (fun w' => by simp [go_sem]) (fun g w1 w2 hw h b => h.on b) (fun G => ?_) (fun w' hw hF => ?_) (fun gy hgy => ?_)
  · obtain ⟨g, hg, hn⟩ := Tx.fresh_above w9.heap.size G
    exact ⟨g, fun k hk => by simp at hk; subst hk; exact ⟨hg, hn⟩⟩
  · have kb := Tx.kept_below hw
    exact (Tx.toMemory_any A n cap z s w' ((AR.out.below (kb.mono K.out.size)).mono (Nat.le_trans K.out.size kb.size)) hn).mono fun e w'' ⟨g, he, m, b1⟩ => ⟨g, he, m.mono kb.size, b1, fun k hk => by simp at hk; subst hk; exact m.lt rfl⟩
  simp only [Act.put, List.setIfInBounds_toArray, List.set_cons_succ, List.set_cons_zero]
  refine Tx.wpO_call (f := 27) (args := #[.agg #[.slice (some ⟨gx, 0, none⟩) n n, .int .i64 s], .agg #[.slice (some ⟨gy, 0, none⟩) n n, .int .i64 s]]) (.bool true) rfl (fun w' => by simp [go_sem]) (fun w' hw hF => Tx.eqMemory_same _ _ n n n z s w' (L.out.on (Tx.kept_below hw)).nums hF.2.nums hn) ?_
  simp only [Act.put, List.setIfInBounds_toArray, List.set_cons_succ, List.set_cons_zero]
  refine Tx.wpO_quiet 1 rfl (by kernel_rfl) ?_
  simp only [List.take, List.drop]
  repeat (go_big_quiet_step (fail))
  refine wpQuiet_nil ?_
  refine Tx.wpO_nil ?_
  rintro w10 b' _
  have b := Tx.kept_below b'
  clear b' fA fX hgy
  have t10 := b.size
  replace AM := Lib.hid (Tx.blk_on b AM.out)
  replace AR := Lib.hid (AR.out.below (b.mono K.out.size))
  replace K := Lib.hid (K.out.trans (b.mono K.out.size))
  replace P := Lib.hid (P.out.on b)
  replace GW := Lib.hid (Tx.blk_on b GW.out)
  replace L := Lib.hid (L.out.on b)
  replace GX := Lib.hid (Tx.blk_on b GX.out)
  replace Q := Lib.hid (Q.out.on b)
  replace GG := Lib.hid (Tx.blk_on b GG.out)
  clear b
  obtain ⟨⟨c0, c1⟩, _⟩ := Tx.blk2 GX.out
  go_wp2_with fail
  clear c0 c1
  refine (Tx.markMemory_any _ n n z s 1 W4.heap.size _ L.out hn (by omega)).mono ?_
  rintro e w11 ⟨rfl, _, gr⟩
  obtain ⟨kk, hkk⟩ : ∃ m : Nat, 1 + n = m := ⟨_, rfl⟩
  rw [hkk]
  clear hkk
  have hk0 : ¬ (kk : Int) < 0 := by omega
  have t11 := gr.size
  replace AM := Lib.hid ((gr.block _ (Tx.blk_in AM.out) (fun e => by have := hlL _ e.symm; omega)).trans AM.out)
  replace AR := Lib.hid (AR.out.below ((Below.refl w.heap.size _).grown gr K.out.size (fun j e => by have := hlL j e; omega)))
  replace K := Lib.hid (K.out.grown gr K.out.size (fun j e => by have := hlL j e; omega))
  replace P := Lib.hid (P.out.kept gr (fun k e e2 => by have h1 := hlP k e; have h2 := hlL k e2; omega))
  replace GW := Lib.hid ((gr.block _ (Tx.blk_in GW.out) (fun e => by have := hlL _ e.symm; omega)).trans GW.out)
  replace GX := Lib.hid ((gr.block _ (Tx.blk_in GX.out) (fun e => by have := hlL _ e.symm; omega)).trans GX.out)
  replace Q := Lib.hid (Q.out.kept gr (fun k e e2 => by have h1 := hlQ k e; have h2 := hlL k e2; omega))
  replace GG := Lib.hid ((gr.block _ (Tx.blk_in GG.out) (fun e => by have := hlL _ e.symm; omega)).trans GG.out)
  clear gr
  clear L GX hlL
  obtain ⟨⟨c0, c1⟩, _⟩ := Tx.blk2 GG.out
  obtain ⟨⟨d0, d1⟩, _⟩ := Tx.blk2 GW.out
  go_wp2_with fail
  clear c0 c1 d0 d1
  refine (Tx.eqMemory_same D B out.length d c out t _ Q.out.nums P.out.nums hol).mono ?_
  rintro e w12 ⟨rfl, b⟩
  have t12 := b.size
  replace AM := Lib.hid (Tx.blk_on b AM.out)
  replace AR := Lib.hid (AR.out.below (b.mono K.out.size))
  replace K := Lib.hid (K.out.trans (b.mono K.out.size))
  replace P := Lib.hid (P.out.on b)
  replace GW := Lib.hid (Tx.blk_on b GW.out)
  replace Q := Lib.hid (Q.out.on b)
  replace GG := Lib.hid (Tx.blk_on b GG.out)
  clear b
  obtain ⟨mm, hmm⟩ : ∃ m : Nat, 1 + out.length = m := ⟨_, rfl⟩
  have hm0 : ¬ (mm : Int) < 0 := by omega
  have HMM := Lib.hid hmm
  clear hmm
  obtain ⟨⟨c0, c1⟩, _⟩ := Tx.blk2 GG.out
  go_wp2_with fail
  clear c0 c1
  refine (Tx.markMemory_any D out.length d out t 1 W6.heap.size _ Q.out hol (by omega)).mono ?_
  rintro e w13 ⟨rfl, m, gr⟩
  rw [HMM.out]
  have Q1 := Lib.hid m
  clear m
  have t13 := gr.size
  replace AM := Lib.hid ((gr.block _ (Tx.blk_in AM.out) (fun e => by have := hlQ _ e.symm; omega)).trans AM.out)
  replace AR := Lib.hid (AR.out.below ((Below.refl w.heap.size _).grown gr K.out.size (fun j e => by have := hlQ j e; omega)))
  replace K := Lib.hid (K.out.grown gr K.out.size (fun j e => by have := hlQ j e; omega))
  replace P := Lib.hid (P.out.kept gr (fun k e e2 => by have h1 := hlP k e; have h2 := hlQ k e2; omega))
  replace GW := Lib.hid ((gr.block _ (Tx.blk_in GW.out) (fun e => by have := hlQ _ e.symm; omega)).trans GW.out)
  replace GG := Lib.hid ((gr.block _ (Tx.blk_in GG.out) (fun e => by have := hlQ _ e.symm; omega)).trans GG.out)
  clear gr
  replace Q := Q1
  clear Q1
  obtain ⟨⟨c0, c1⟩, _⟩ := Tx.blk2 GG.out
  go_wp2_with fail
  clear c0 c1
  refine (Tx.heldMemory_any D out.length d t 1 _ Q.out.nums hol (by omega)).mono ?_
  rw [HMM.out]
  rintro e w14 ⟨rfl, b⟩
  have t14 := b.size
  replace AM := Lib.hid (Tx.blk_on b AM.out)
  replace AR := Lib.hid (AR.out.below (b.mono K.out.size))
  replace K := Lib.hid (K.out.trans (b.mono K.out.size))
  replace P := Lib.hid (P.out.on b)
  replace GW := Lib.hid (Tx.blk_on b GW.out)
  replace Q := Lib.hid (Q.out.on b)
  replace GG := Lib.hid (Tx.blk_on b GG.out)
  clear b
  obtain ⟨⟨a0, a1⟩, _⟩ := Tx.blk2 AM.out
  go_wp2_with fail
  clear a0 a1
  refine (Tx.toMemory_any A n cap z s _ (AR.out.mono K.out.size) hn).mono ?_
  rintro e w15 ⟨gn, rfl, m, b⟩
  have N0 := Lib.hid m
  have hlN : ∀ k, Tx.blkN (some ⟨gn, 0, none⟩) = some k → w14.heap.size ≤ k ∧ k < w15.heap.size := fun k e => m.lt e
  clear m
  have t15 := b.size
  replace AM := Lib.hid (Tx.blk_on b AM.out)
  replace AR := Lib.hid (AR.out.below (b.mono K.out.size))
  replace K := Lib.hid (K.out.trans (b.mono K.out.size))
  replace P := Lib.hid (P.out.on b)
  replace GW := Lib.hid (Tx.blk_on b GW.out)
  replace Q := Lib.hid (Q.out.on b)
  replace GG := Lib.hid (Tx.blk_on b GG.out)
  clear b
  have N := N0
  clear N0
  go_wp2_with fail
  refine (cI.out _ _ N.out.nums).mono ?_
  rintro e w16 ⟨E, f, rfl, ho, b⟩
  have R0 := Lib.hid ho
  have hlR : ∀ k, Tx.blkN E = some k → w15.heap.size ≤ k ∧ k < w16.heap.size := fun k e => ho.lt e
  clear ho
  have t16 := b.size
  replace AM := Lib.hid (Tx.blk_on b AM.out)
  replace AR := Lib.hid (AR.out.below (b.mono K.out.size))
  replace K := Lib.hid (K.out.trans (b.mono K.out.size))
  replace P := Lib.hid (P.out.on b)
  replace GW := Lib.hid (Tx.blk_on b GW.out)
  replace Q := Lib.hid (Q.out.on b)
  replace GG := Lib.hid (Tx.blk_on b GG.out)
  replace N := Lib.hid (N.out.on b)
  clear b
  have R := R0
  clear R0
  clear N hlN
  clear cI
  obtain ⟨W17, hW17⟩ : ∃ W, w16.alloc (.cells #[.slice E out.length f, .int .i64 t] 26) = W := ⟨_, rfl⟩
  have b : Below w16.heap.size w16 W17 := hW17 ▸ (Below.refl _ w16).alloc (Nat.le_refl _) _
  have GH0 : Hid (W17.heap[w16.heap.size]? = some (.cells #[.slice E out.length f, .int .i64 t] 26)) := by rw [← hW17]; exact Tx.heap1 w16 _
  have uW17 : w16.heap.size < W17.heap.size := by rw [← hW17]; simp
  have t17 := b.size
  replace AM := Lib.hid (Tx.blk_on b AM.out)
  replace AR := Lib.hid (AR.out.below (b.mono K.out.size))
  replace K := Lib.hid (K.out.trans (b.mono K.out.size))
  replace P := Lib.hid (P.out.on b)
  replace GW := Lib.hid (Tx.blk_on b GW.out)
  replace Q := Lib.hid (Q.out.on b)
  replace GG := Lib.hid (Tx.blk_on b GG.out)
  replace R := Lib.hid (R.out.on b)
  clear b
  have GH := GH0
  clear GH0
  obtain ⟨⟨c0, c1⟩, _⟩ := Tx.blk2 GH.out
  obtain ⟨⟨d0, d1⟩, _⟩ := Tx.blk2 GW.out
  go_wp2_with fail
  clear c0 c1 d0 d1 hW17
  refine (Tx.eqMemory_same E B out.length f c out t _ R.out.nums P.out.nums hol).mono ?_
  rintro e w18 ⟨rfl, b⟩
  have t18 := b.size
  replace AM := Lib.hid (Tx.blk_on b AM.out)
  replace AR := Lib.hid (AR.out.below (b.mono K.out.size))
  replace K := Lib.hid (K.out.trans (b.mono K.out.size))
  replace P := Lib.hid (P.out.on b)
  replace GW := Lib.hid (Tx.blk_on b GW.out)
  replace Q := Lib.hid (Q.out.on b)
  replace GG := Lib.hid (Tx.blk_on b GG.out)
  replace R := Lib.hid (R.out.on b)
  replace GH := Lib.hid (Tx.blk_on b GH.out)
  clear b
  obtain ⟨⟨c0, c1⟩, _⟩ := Tx.blk2 GG.out
  go_wp2_with fail
  clear c0 c1
  refine (Tx.heldMemory_any D out.length d t 1 _ Q.out.nums hol (by omega)).mono ?_
  rw [HMM.out]
  rintro e w19 ⟨rfl, b⟩
  have t19 := b.size
  replace AM := Lib.hid (Tx.blk_on b AM.out)
  replace AR := Lib.hid (AR.out.below (b.mono K.out.size))
  replace K := Lib.hid (K.out.trans (b.mono K.out.size))
  replace P := Lib.hid (P.out.on b)
  replace GW := Lib.hid (Tx.blk_on b GW.out)
  replace Q := Lib.hid (Q.out.on b)
  replace GG := Lib.hid (Tx.blk_on b GG.out)
  replace R := Lib.hid (R.out.on b)
  replace GH := Lib.hid (Tx.blk_on b GH.out)
  clear b
  go_wp2
  go_ret
  exact ⟨rfl, K.out⟩

theorem own : ownKnob Try.prog.godebug = none := by kernel_rfl
theorem laidOut : laidOutB Try.prog = true := by kernel_rfl

set_option maxRecDepth 100000 in
theorem lifted (os : Os) (started : os.Started) (H : Type) (enc : TypeId × Value → H) :
    ReturnsInHanded {} Try.checked os 7 .any (Rows.fnExactNotedSpec.pre6 enc Try.prog Try.f7 Rows.fnExactNotedRow.domain false) (Rows.fnExactNotedSpec.post enc Try.prog Try.f7 false true false false) := by
  refine returnsInHanded_of_change (C := Try.checked) own started (by kernel_rfl) Try.func7
    (ChangeSpec.witness6 (enc := enc) (C := Try.checked) false ⟨#[], #[.agg #[.slice none 0 0, .int .i64 0], .int .i64 0], []⟩ 8 (by kernel_rfl) (by kernel_rfl) (by kernel_rfl) (by kernel_rfl)) ?_
  intro W base args ds gs before hval0 hW hcnd _
  have hval : ∀ (j : Nat) t v, Try.f7.params[j]? = some t → args[j]? = some v → Value.okWide Try.prog W .any base t v := hval0
  have hW' := hW
  obtain ⟨p, q, hA0, hV, rfl, hfz, hnd⟩ := hW
  have hA : DataW.TrodAll enc Try.prog W 0 (fun _ => true) true Try.f7.params.toList args.toList ds p := hA0
  rw [Try.params7] at hA hval
  obtain ⟨v0, vs0, d0, ds0, p0, q0, hargs, rfl, rfl, h0, r0⟩ := trodAll_cons hA
  obtain ⟨v1, vs1, d1, ds1, p1, q1, rfl, rfl, rfl, h1, r1⟩ := trodAll_cons r0
  obtain ⟨rfl, rfl, rfl⟩ := trodAll_nil r1
  obtain rfl : args = #[v0, v1] := by cases args; simp_all
  obtain ⟨rfl, rfl⟩ := trodVars_none hV
  have k0 := h0
  have lt0 : ∀ x ∈ p0, x.block < W.heap.size := by obtain ⟨m, hm⟩ := k0; exact DataW.trod_lt m _ _ _ hm
  have k1 := h1
  have lt1 : ∀ x ∈ p1, x.block < W.heap.size := by obtain ⟨m, hm⟩ := k1; exact DataW.trod_lt m _ _ _ hm
  obtain ⟨A0, n0, cp0, z0, s0, rfl, w0⟩ := Tx.open_mem (hval 0 40 v0 rfl rfl) h0
  obtain ⟨a1, rfl, rfl, rfl, w1⟩ := open_int Try.underlying2 (hval 1 2 v1 rfl rfl) h1
  clear hA0 hval0
  refine (walk W A0 n0 cp0 z0 s0 w0.1 w0.2.1 w0.2.2 a1 w1).mono fun e W' ⟨he, bel⟩ => ?_
  subst he
  exact ⟨_, rfl, _, _, _, [], _, [], hW', trodAll_mk1 (shut_bool Try.underlying4 _), (trodAll_cons_mk (Below.trod laidOut (by kernel_rfl) (of_decide_eq_true (by kernel_rfl)) k0 bel lt0) (trodAll_cons_mk (Below.trod laidOut (by kernel_rfl) (of_decide_eq_true (by kernel_rfl)) k1 bel lt1) trodAll_mk0)), rfl, bel.frame _, fun h => by cases h⟩

theorem over : Rows.fnExactNotedRow.holds Try.pinned (OpenSpec.ofChange Rows.fnExactNotedSpec) :=
  OpenClaim.holds_of_wide 7 Try.f7 rfl rfl rfl rfl rfl rfl rfl ⟨rfl, rfl, rfl, rfl, rfl⟩ rfl rfl rfl rfl rfl (by kernel_rfl) Try.func7 (by kernel_rfl)
    (of_decide_eq_true (by kernel_rfl)) (by unfold Func.isWrapper; first | (rw [if_pos (by decide +kernel)]; kernel_rfl) | (rw [if_neg (by decide +kernel)]; exact ⟨rfl, rfl⟩))
    (fun os started H enc _ => lifted os started H enc)

end Go.Proofs.Ytdpdbidjbidmaaa.fnExactNoted

namespace Go.Proofs.Ytdpdbidjbidmaaa
theorem fnExactNoted_proved : Rows.FnExactNotedSaid := fnExactNoted.over
#print axioms fnExactNoted_proved
end Go.Proofs.Ytdpdbidjbidmaaa

/-
  The law FnExactTakeAll returns true at every row and list of boxes, and they read behind the call as they read before: TakeAll of the program and of the model answer alike, in memory of the call's own. No condition.
-/
import Derived.Test.YthkgidibonkfbaaRows
import Derived.WalkKit
import Derived.ProofKit
import Derived.OpenShut
import Derived.ShutString
import Derived.ChangeOld
import Derived.Below
import Derived.SliceStrings
import Derived.Lib.SmallJoins
import Derived.Test.YthkgidibonkfbaaOpen5
import Derived.Test.YthkgidibonkfbaaOpenL5
import Derived.Test.YthkgidibonkfbaaCopyB
import Derived.Test.YthkgidibonkfbaaRowAll
import Derived.Test.YthkgidibonkfbaaImpl5
namespace Go.Proofs.Ythkgidibonkfbaa.fnExactTakeAll
open Go.ChangeShapes Go.WideShapes Go.ChangeAt Go.RowKit
open Go.ChangeMaps (open_string shut_string)
set_option linter.unusedVariables false

set_option maxHeartbeats 8000000 in
theorem walk (w : World) (r : Tx.RowV) (_ : True) (A : Option Addr) (n cap : Nat) (bs : List Tx.BoxV) (hS : Tx.Bxs w w.heap.size A n bs) (hl : n ≤ maxLen) (hz : ∀ b ∈ bs, b.t.size ≤ maxLen) :
    Calls Try.prog 8 #[r.val, .slice A n cap] w fun e w' => e = .returned (.bool true) ∧ Below w.heap.size w w' := by
  obtain ⟨⟨ru, rs, rh, ra⟩, rn⟩ := r
  have hl' : n ≤ 9223372036854775807 := by have e : (2 : Nat) ^ 63 - 1 = 9223372036854775807 := rfl; rw [← e]; exact hl
  have hz' : ∀ b ∈ bs, b.t.size ≤ 9223372036854775807 := fun b hb => by have e : (2 : Nat) ^ 63 - 1 = 9223372036854775807 := rfl; rw [← e]; exact hz b hb
  clear hl hz
  have HV : Hid (Tx.RowV.val ⟨⟨ru, rs, rh, ra⟩, rn⟩ = .agg #[.int .i64 ru, .int .i64 rs, .int .i64 rh, .int .i64 ra, .int .i64 rn]) := rfl
  rw [HV.out]
  obtain ⟨W0, hW0⟩ : ∃ W, w.alloc (.cells #[.int .i64 ru, .int .i64 rs, .int .i64 rh, .int .i64 ra, .int .i64 rn] 52) = W := ⟨_, rfl⟩
  have sW0 : w.heap.size < W0.heap.size := by rw [← hW0]; simp
  have K : Hid (Below w.heap.size w W0) := by rw [← hW0]; exact (Below.refl _ w).alloc (Nat.le_refl _) _
  have GR : Hid (W0.heap[w.heap.size]? = some (.cells #[.int .i64 ru, .int .i64 rs, .int .i64 rh, .int .i64 ra, .int .i64 rn] 52)) := by rw [← hW0]; exact Tx.heap1 w _
  have AR := Lib.hid (hS.below K.out)
  have HL := Lib.hid hS.1
  have HZ := Lib.hid hz'
  clear hS hz'
  go_enter Try.func8, Try.ntmps8
  go_wp2_with fail
  clear hW0
  refine (Tx.szBoxS_any _ _ _ bs _ (AR.out.mono K.out.size) hl' HZ.out).mono ?_
  rintro e wz ⟨lf, rfl, hn0, b⟩
  have t1 := b.size
  replace GR := Lib.hid (Tx.blk_on b GR.out)
  replace AR := Lib.hid (AR.out.below (b.mono K.out.size))
  replace K := Lib.hid (K.out.trans (b.mono K.out.size))
  clear b
  by_cases hneg : lf < 0
  · clear hn0
    go_wp2
    go_ret
    exact ⟨rfl, K.out⟩
  have hn : n ≤ 1048576 := hn0 (by omega)
  clear hn0 HZ hl'
  obtain ⟨⟨⟨qu, qs, qh, qa⟩, qn⟩, hq⟩ : ∃ x, (if Tx.rowOkB ⟨⟨ru, rs, rh, ra⟩, rn⟩ then Tx.takeAllR ⟨⟨ru, rs, rh, ra⟩, rn⟩ bs else .zero) = x := ⟨_, rfl⟩
  obtain ⟨ts, hts⟩ : ∃ x, (if Tx.rowOkB ⟨⟨ru, rs, rh, ra⟩, rn⟩ then Tx.takeAllL ⟨⟨ru, rs, rh, ra⟩, rn⟩ bs else []) = x := ⟨_, rfl⟩
  have hbl : ts.length ≤ n := by
    rw [← hts, ← HL.out]
    split
    · exact Tx.takeAllL_length bs _
    · exact Nat.zero_le _
  have cS : Hid (∀ (w' : World) (A : Option Addr) (c : Nat), Tx.Bxs w' w'.heap.size A n bs → Calls Try.prog 22 #[.agg #[.int .i64 ru, .int .i64 rs, .int .i64 rh, .int .i64 ra, .int .i64 rn], .slice A n c] w' fun e w'' => ∃ gb cb : Nat, e = .returned (.tuple #[.agg #[.int .i64 qu, .int .i64 qs, .int .i64 qh, .int .i64 qa, .int .i64 qn], .slice (some ⟨gb, 0, none⟩) ts.length cb]) ∧ Tx.MadeS w'' w'.heap.size ts gb cb ∧ Below w'.heap.size w' w'') := fun w' A c hs => by
    have h1 := Tx.TakeAll_spec ⟨⟨ru, rs, rh, ra⟩, rn⟩ A n c bs w' hs hn
    unfold Tx.TakeAllOut at h1
    rw [hq, hts] at h1
    exact h1
  have cI : Hid (∀ (w' : World) (A : Option Addr) (c : Nat), Tx.Bxs w' w'.heap.size A n bs → Calls Try.prog 13 #[.agg #[.int .i64 ru, .int .i64 rs, .int .i64 rh, .int .i64 ra, .int .i64 rn], .slice A n c] w' fun e w'' => ∃ gb cb : Nat, e = .returned (.tuple #[.agg #[.int .i64 qu, .int .i64 qs, .int .i64 qh, .int .i64 qa, .int .i64 qn], .slice (some ⟨gb, 0, none⟩) ts.length cb]) ∧ Tx.MadeS w'' w'.heap.size ts gb cb ∧ Below w'.heap.size w' w'') := fun w' A c hs => by
    have h1 := Tx.TakeAll_impl ⟨⟨ru, rs, rh, ra⟩, rn⟩ A n c bs w' hs hn
    unfold Tx.TakeAllOut at h1
    rw [hq, hts] at h1
    exact h1
  clear hq hts
  obtain ⟨⟨c0, c1, c2, c3, c4⟩, _⟩ := Tx.blk5 GR.out
  go_wp2_with fail
  clear c0 c1 c2 c3 c4
  refine (Tx.toRow_any ⟨⟨ru, rs, rh, ra⟩, rn⟩ _).mono ?_
  rintro e w1 ⟨rfl, bw1⟩
  replace GR := Lib.hid (Tx.blk_on bw1 GR.out)
  replace AR := Lib.hid (AR.out.below (bw1.mono K.out.size))
  replace K := Lib.hid (K.out.trans (bw1.mono K.out.size))
  have sw1 := bw1.size
  clear bw1
  go_wp2_with fail
  refine (Tx.toBoxS_any _ _ _ bs _ (AR.out.mono K.out.size) hn).mono ?_
  rintro e w2 ⟨rfl, hc⟩
  have b := hc.bel
  have X := Lib.hid hc.at
  have hX0 := hc.lt
  clear hc
  have t2 := b.size
  replace GR := Lib.hid (Tx.blk_on b GR.out)
  replace AR := Lib.hid (AR.out.below (b.mono K.out.size))
  replace K := Lib.hid (K.out.trans (b.mono K.out.size))
  clear b
  go_wp2_with fail
  refine (cS.out _ _ _ (X.out.bxs HL.out)).mono ?_
  rintro e w3 ⟨gb, cb, rfl, hM, b⟩
  have M := Lib.hid hM
  have hM0 := hM.base
  clear hM cS
  have t3 := b.size
  replace GR := Lib.hid (Tx.blk_on b GR.out)
  replace AR := Lib.hid (AR.out.below (b.mono K.out.size))
  replace K := Lib.hid (K.out.trans (b.mono K.out.size))
  clear b
  clear X
  obtain ⟨W4, hW4⟩ : ∃ W, w3.alloc (.cells #[.int .i64 qu, .int .i64 qs, .int .i64 qh, .int .i64 qa, .int .i64 qn] 27) = W := ⟨_, rfl⟩
  have bW4 : Below w3.heap.size w3 W4 := hW4 ▸ (Below.refl _ w3).alloc (Nat.le_refl _) _
  replace GR := Lib.hid (Tx.blk_on bW4 GR.out)
  replace AR := Lib.hid (AR.out.below (bW4.mono K.out.size))
  replace K := Lib.hid (K.out.trans (bW4.mono K.out.size))
  replace M := Lib.hid (M.out.below bW4)
  have G6 : Hid (W4.heap[w3.heap.size]? = some (.cells #[.int .i64 qu, .int .i64 qs, .int .i64 qh, .int .i64 qa, .int .i64 qn] 27)) := by rw [← hW4]; exact Tx.heap1 w3 _
  have sW4 : w3.heap.size < W4.heap.size := by rw [← hW4]; simp
  clear bW4
  go_wp2_with fail
  clear hW4
  refine (Tx.toBoxS_any _ _ _ bs _ (AR.out.mono K.out.size) hn).mono ?_
  rintro e w5 ⟨rfl, hc⟩
  have b := hc.bel
  have X := Lib.hid hc.at
  have hX0 := hc.lt
  clear hc
  have t4 := b.size
  replace GR := Lib.hid (Tx.blk_on b GR.out)
  replace AR := Lib.hid (AR.out.below (b.mono K.out.size))
  replace K := Lib.hid (K.out.trans (b.mono K.out.size))
  replace M := Lib.hid (M.out.below b)
  replace G6 := Lib.hid (Tx.blk_on b G6.out)
  clear b
  obtain ⟨⟨c0, c1, c2, c3, c4⟩, _⟩ := Tx.blk5 GR.out
  go_wp2_with fail
  clear c0 c1 c2 c3 c4
  refine (Tx.toRow_any ⟨⟨ru, rs, rh, ra⟩, rn⟩ _).mono ?_
  rintro e w6 ⟨rfl, bw6⟩
  replace GR := Lib.hid (Tx.blk_on bw6 GR.out)
  replace AR := Lib.hid (AR.out.below (bw6.mono K.out.size))
  replace K := Lib.hid (K.out.trans (bw6.mono K.out.size))
  replace M := Lib.hid (M.out.below bw6)
  replace G6 := Lib.hid (Tx.blk_on bw6 G6.out)
  replace X := Lib.hid (X.out.on bw6)
  have sw6 := bw6.size
  clear bw6
  go_wp2_with fail
  refine (cI.out _ _ _ (X.out.bxs HL.out)).mono ?_
  rintro e w7 ⟨ga, ca, rfl, hM, b⟩
  have N := Lib.hid hM
  have hN0 := hM.base
  clear hM
  have t5 := b.size
  replace GR := Lib.hid (Tx.blk_on b GR.out)
  replace AR := Lib.hid (AR.out.below (b.mono K.out.size))
  replace K := Lib.hid (K.out.trans (b.mono K.out.size))
  replace M := Lib.hid (M.out.below b)
  replace G6 := Lib.hid (Tx.blk_on b G6.out)
  replace X := Lib.hid (X.out.on b)
  clear b
  obtain ⟨W8, hW8⟩ : ∃ W, w7.alloc (.cells #[.int .i64 qu, .int .i64 qs, .int .i64 qh, .int .i64 qa, .int .i64 qn] 27) = W := ⟨_, rfl⟩
  have bW8 : Below w7.heap.size w7 W8 := hW8 ▸ (Below.refl _ w7).alloc (Nat.le_refl _) _
  replace GR := Lib.hid (Tx.blk_on bW8 GR.out)
  replace AR := Lib.hid (AR.out.below (bW8.mono K.out.size))
  replace K := Lib.hid (K.out.trans (bW8.mono K.out.size))
  replace M := Lib.hid (M.out.below bW8)
  replace G6 := Lib.hid (Tx.blk_on bW8 G6.out)
  replace X := Lib.hid (X.out.on bW8)
  replace N := Lib.hid (N.out.below bW8)
  have G9 : Hid (W8.heap[w7.heap.size]? = some (.cells #[.int .i64 qu, .int .i64 qs, .int .i64 qh, .int .i64 qa, .int .i64 qn] 27)) := by rw [← hW8]; exact Tx.heap1 w7 _
  have sW8 : w7.heap.size < W8.heap.size := by rw [← hW8]; simp
  clear bW8
  obtain ⟨⟨c0, c1, c2, c3, c4⟩, _⟩ := Tx.blk5 G9.out
  obtain ⟨⟨d0, d1, d2, d3, d4⟩, _⟩ := Tx.blk5 G6.out
  go_wp2_with fail
  clear c0 c1 c2 c3 c4 d0 d1 d2 d3 d4
  clear hW8
  refine (Tx.eqRow_same ⟨⟨qu, qs, qh, qa⟩, qn⟩ _).mono ?_
  rintro e w9 ⟨rfl, bw9⟩
  replace GR := Lib.hid (Tx.blk_on bw9 GR.out)
  replace AR := Lib.hid (AR.out.below (bw9.mono K.out.size))
  replace K := Lib.hid (K.out.trans (bw9.mono K.out.size))
  replace M := Lib.hid (M.out.below bw9)
  replace G6 := Lib.hid (Tx.blk_on bw9 G6.out)
  replace X := Lib.hid (X.out.on bw9)
  replace N := Lib.hid (N.out.below bw9)
  replace G9 := Lib.hid (Tx.blk_on bw9 G9.out)
  have sw9 := bw9.size
  clear bw9
  go_wp2_with fail
  refine (Tx.eqStringS_any _ _ ts.length ts.length _ _ ts ts _ (Tx.madeS_strs N.out) (Tx.madeS_strs M.out) (by omega) (by omega)).mono ?_
  rintro e w10 ⟨he, q, hq⟩
  obtain rfl : e = .returned (.bool true) := by rw [he]; simp
  have b : Below w9.heap.size w9 w10 := by rw [hq]; exact Tx.drewN_below (Below.refl _ _) q
  clear he hq
  have t6 := b.size
  replace GR := Lib.hid (Tx.blk_on b GR.out)
  replace AR := Lib.hid (AR.out.below (b.mono K.out.size))
  replace K := Lib.hid (K.out.trans (b.mono K.out.size))
  replace M := Lib.hid (M.out.below b)
  replace G6 := Lib.hid (Tx.blk_on b G6.out)
  replace X := Lib.hid (X.out.on b)
  replace N := Lib.hid (N.out.below b)
  replace G9 := Lib.hid (Tx.blk_on b G9.out)
  clear b
  go_wp2_with fail
  refine (Tx.toBoxS_any _ _ _ bs _ (AR.out.mono K.out.size) hn).mono ?_
  rintro e w11 ⟨rfl, hc⟩
  have b := hc.bel
  have Y := Lib.hid hc.at
  have hY0 := hc.lt
  clear hc
  have t7 := b.size
  replace GR := Lib.hid (Tx.blk_on b GR.out)
  replace AR := Lib.hid (AR.out.below (b.mono K.out.size))
  replace K := Lib.hid (K.out.trans (b.mono K.out.size))
  replace M := Lib.hid (M.out.below b)
  replace G6 := Lib.hid (Tx.blk_on b G6.out)
  replace X := Lib.hid (X.out.on b)
  replace N := Lib.hid (N.out.below b)
  replace G9 := Lib.hid (Tx.blk_on b G9.out)
  clear b
  go_wp2_with fail
  refine (Tx.eqBoxS_same _ _ n _ _ bs _ (X.out.bxs HL.out) (Y.out.bxs HL.out) hn).mono ?_
  rintro e w12 ⟨rfl, bw12⟩
  replace GR := Lib.hid (Tx.blk_on bw12 GR.out)
  replace AR := Lib.hid (AR.out.below (bw12.mono K.out.size))
  replace K := Lib.hid (K.out.trans (bw12.mono K.out.size))
  replace M := Lib.hid (M.out.below bw12)
  replace G6 := Lib.hid (Tx.blk_on bw12 G6.out)
  replace X := Lib.hid (X.out.on bw12)
  replace N := Lib.hid (N.out.below bw12)
  replace G9 := Lib.hid (Tx.blk_on bw12 G9.out)
  have sw12 := bw12.size
  clear bw12
  clear Y
  have hK0 := K.out.size
  go_wp2_with fail
  refine (Tx.markBoxS_any W4.heap.size n _ 1 (by omega) _ X.out.room).mono ?_
  rintro e w13 ⟨rfl, _, gr⟩
  clear X
  obtain ⟨kk, hkk⟩ : ∃ m : Nat, 1 + n * 7 = m := ⟨_, rfl⟩
  rw [hkk]
  clear hkk
  have hk0 : ¬ (kk : Int) < 0 := by omega
  replace GR := Lib.hid (Tx.blk_off gr GR.out (by omega))
  replace AR := Lib.hid (AR.out.off gr ⟨by omega, K.out.size⟩)
  replace K := Lib.hid (Tx.below_off K.out gr ⟨by omega, K.out.size⟩)
  replace M := Lib.hid (M.out.kept gr (by intro e; have e1 := Option.some.inj e; omega))
  replace G6 := Lib.hid (Tx.blk_off gr G6.out (by omega))
  replace N := Lib.hid (N.out.kept gr (by intro e; have e1 := Option.some.inj e; omega))
  replace G9 := Lib.hid (Tx.blk_off gr G9.out (by omega))
  clear gr
  obtain ⟨⟨c0, c1, c2, c3, c4⟩, _⟩ := Tx.blk5 G9.out
  obtain ⟨⟨d0, d1, d2, d3, d4⟩, _⟩ := Tx.blk5 G6.out
  go_wp2_with fail
  clear c0 c1 c2 c3 c4 d0 d1 d2 d3 d4
  refine (Tx.eqRow_same ⟨⟨qu, qs, qh, qa⟩, qn⟩ _).mono ?_
  rintro e w14 ⟨rfl, bw14⟩
  replace GR := Lib.hid (Tx.blk_on bw14 GR.out)
  replace AR := Lib.hid (AR.out.below (bw14.mono K.out.size))
  replace K := Lib.hid (K.out.trans (bw14.mono K.out.size))
  replace M := Lib.hid (M.out.below bw14)
  replace G6 := Lib.hid (Tx.blk_on bw14 G6.out)
  replace N := Lib.hid (N.out.below bw14)
  replace G9 := Lib.hid (Tx.blk_on bw14 G9.out)
  have sw14 := bw14.size
  clear bw14
  go_wp2_with fail
  refine (Tx.eqStringS_any _ _ ts.length ts.length _ _ ts ts _ (Tx.madeS_strs N.out) (Tx.madeS_strs M.out) (by omega) (by omega)).mono ?_
  rintro e w15 ⟨he, q, hq⟩
  obtain rfl : e = .returned (.bool true) := by rw [he]; simp
  have b : Below w14.heap.size w14 w15 := by rw [hq]; exact Tx.drewN_below (Below.refl _ _) q
  clear he hq
  have t8 := b.size
  replace GR := Lib.hid (Tx.blk_on b GR.out)
  replace AR := Lib.hid (AR.out.below (b.mono K.out.size))
  replace K := Lib.hid (K.out.trans (b.mono K.out.size))
  replace M := Lib.hid (M.out.below b)
  replace G6 := Lib.hid (Tx.blk_on b G6.out)
  replace N := Lib.hid (N.out.below b)
  replace G9 := Lib.hid (Tx.blk_on b G9.out)
  clear b
  go_wp2_with fail
  refine (Tx.markStringS_any ga ts.length _ 1 (by omega) _ (by have := N.out.there; rwa [Nat.mul_one] at this)).mono ?_
  rintro e w16 ⟨rfl, hF, gr⟩
  have FL := Lib.hid hF
  clear hF N
  clear G9
  have sX := K.out.size
  replace GR := Lib.hid (Tx.blk_off gr GR.out (by omega))
  replace AR := Lib.hid (AR.out.off gr ⟨by omega, K.out.size⟩)
  replace K := Lib.hid (Tx.below_off K.out gr ⟨by omega, K.out.size⟩)
  replace M := Lib.hid (M.out.kept gr (by intro e; have e1 := Option.some.inj e; omega))
  replace G6 := Lib.hid (Tx.blk_off gr G6.out (by omega))
  clear gr
  obtain ⟨m, hm⟩ : ∃ m : Nat, 1 + ts.length = m := ⟨_, rfl⟩
  rw [hm]
  go_wp2_with fail
  have hH := Tx.heldStringS_any ga ts.length ca 1 (by omega) _ FL.out
  rw [hm] at hH
  refine hH.mono ?_
  clear hH
  rintro e w17 ⟨rfl, b⟩
  have t9 := b.size
  replace GR := Lib.hid (Tx.blk_on b GR.out)
  replace AR := Lib.hid (AR.out.below (b.mono K.out.size))
  replace K := Lib.hid (K.out.trans (b.mono K.out.size))
  replace M := Lib.hid (M.out.below b)
  replace G6 := Lib.hid (Tx.blk_on b G6.out)
  replace FL := Lib.hid (FL.out.on b)
  clear b
  have hm0 : ¬ (m : Int) < 0 := by omega
  obtain ⟨⟨c0, c1, c2, c3, c4⟩, _⟩ := Tx.blk5 GR.out
  go_wp2_with fail
  clear c0 c1 c2 c3 c4
  refine (Tx.toRow_any ⟨⟨ru, rs, rh, ra⟩, rn⟩ _).mono ?_
  rintro e w18 ⟨rfl, bw18⟩
  replace GR := Lib.hid (Tx.blk_on bw18 GR.out)
  replace AR := Lib.hid (AR.out.below (bw18.mono K.out.size))
  replace K := Lib.hid (K.out.trans (bw18.mono K.out.size))
  replace M := Lib.hid (M.out.below bw18)
  replace G6 := Lib.hid (Tx.blk_on bw18 G6.out)
  replace FL := Lib.hid (FL.out.on bw18)
  have sw18 := bw18.size
  clear bw18
  go_wp2_with fail
  refine (Tx.toBoxS_any _ _ _ bs _ (AR.out.mono K.out.size) hn).mono ?_
  rintro e w19 ⟨rfl, hc⟩
  have b := hc.bel
  have X := Lib.hid hc.at
  have hX0 := hc.lt
  clear hc
  have t10 := b.size
  replace GR := Lib.hid (Tx.blk_on b GR.out)
  replace AR := Lib.hid (AR.out.below (b.mono K.out.size))
  replace K := Lib.hid (K.out.trans (b.mono K.out.size))
  replace M := Lib.hid (M.out.below b)
  replace G6 := Lib.hid (Tx.blk_on b G6.out)
  replace FL := Lib.hid (FL.out.on b)
  clear b
  go_wp2_with fail
  refine (cI.out _ _ _ (X.out.bxs HL.out)).mono ?_
  rintro e w20 ⟨gh, ch, rfl, hM, b⟩
  have N := Lib.hid hM
  clear hM cI
  have t11 := b.size
  replace GR := Lib.hid (Tx.blk_on b GR.out)
  replace AR := Lib.hid (AR.out.below (b.mono K.out.size))
  replace K := Lib.hid (K.out.trans (b.mono K.out.size))
  replace M := Lib.hid (M.out.below b)
  replace G6 := Lib.hid (Tx.blk_on b G6.out)
  replace FL := Lib.hid (FL.out.on b)
  clear b
  clear X
  obtain ⟨W15, hW15⟩ : ∃ W, w20.alloc (.cells #[.int .i64 qu, .int .i64 qs, .int .i64 qh, .int .i64 qa, .int .i64 qn] 27) = W := ⟨_, rfl⟩
  have bW15 : Below w20.heap.size w20 W15 := hW15 ▸ (Below.refl _ w20).alloc (Nat.le_refl _) _
  replace GR := Lib.hid (Tx.blk_on bW15 GR.out)
  replace AR := Lib.hid (AR.out.below (bW15.mono K.out.size))
  replace K := Lib.hid (K.out.trans (bW15.mono K.out.size))
  replace M := Lib.hid (M.out.below bW15)
  replace G6 := Lib.hid (Tx.blk_on bW15 G6.out)
  replace FL := Lib.hid (FL.out.on bW15)
  replace N := Lib.hid (N.out.below bW15)
  have G14 : Hid (W15.heap[w20.heap.size]? = some (.cells #[.int .i64 qu, .int .i64 qs, .int .i64 qh, .int .i64 qa, .int .i64 qn] 27)) := by rw [← hW15]; exact Tx.heap1 w20 _
  have sW15 : w20.heap.size < W15.heap.size := by rw [← hW15]; simp
  clear bW15
  obtain ⟨⟨c0, c1, c2, c3, c4⟩, _⟩ := Tx.blk5 G14.out
  obtain ⟨⟨d0, d1, d2, d3, d4⟩, _⟩ := Tx.blk5 G6.out
  go_wp2_with fail
  clear c0 c1 c2 c3 c4 d0 d1 d2 d3 d4
  clear hW15
  refine (Tx.eqRow_same ⟨⟨qu, qs, qh, qa⟩, qn⟩ _).mono ?_
  rintro e w21 ⟨rfl, bw21⟩
  replace GR := Lib.hid (Tx.blk_on bw21 GR.out)
  replace AR := Lib.hid (AR.out.below (bw21.mono K.out.size))
  replace K := Lib.hid (K.out.trans (bw21.mono K.out.size))
  replace M := Lib.hid (M.out.below bw21)
  replace G6 := Lib.hid (Tx.blk_on bw21 G6.out)
  replace FL := Lib.hid (FL.out.on bw21)
  replace N := Lib.hid (N.out.below bw21)
  replace G14 := Lib.hid (Tx.blk_on bw21 G14.out)
  have sw21 := bw21.size
  clear bw21
  go_wp2_with fail
  refine (Tx.eqStringS_any _ _ ts.length ts.length _ _ ts ts _ (Tx.madeS_strs N.out) (Tx.madeS_strs M.out) (by omega) (by omega)).mono ?_
  rintro e w22 ⟨he, q, hq⟩
  obtain rfl : e = .returned (.bool true) := by rw [he]; simp
  have b : Below w21.heap.size w21 w22 := by rw [hq]; exact Tx.drewN_below (Below.refl _ _) q
  clear he hq
  have t12 := b.size
  replace GR := Lib.hid (Tx.blk_on b GR.out)
  replace AR := Lib.hid (AR.out.below (b.mono K.out.size))
  replace K := Lib.hid (K.out.trans (b.mono K.out.size))
  replace M := Lib.hid (M.out.below b)
  replace G6 := Lib.hid (Tx.blk_on b G6.out)
  replace FL := Lib.hid (FL.out.on b)
  replace N := Lib.hid (N.out.below b)
  replace G14 := Lib.hid (Tx.blk_on b G14.out)
  clear b
  go_wp2_with fail
  have hH := Tx.heldStringS_any ga ts.length ca 1 (by omega) _ FL.out
  rw [hm] at hH
  refine hH.mono ?_
  clear hH
  rintro e w23 ⟨rfl, b⟩
  have t13 := b.size
  replace GR := Lib.hid (Tx.blk_on b GR.out)
  replace AR := Lib.hid (AR.out.below (b.mono K.out.size))
  replace K := Lib.hid (K.out.trans (b.mono K.out.size))
  replace M := Lib.hid (M.out.below b)
  replace G6 := Lib.hid (Tx.blk_on b G6.out)
  replace FL := Lib.hid (FL.out.on b)
  replace N := Lib.hid (N.out.below b)
  replace G14 := Lib.hid (Tx.blk_on b G14.out)
  clear b
  go_wp2
  go_ret
  exact ⟨rfl, K.out⟩

theorem own : ownKnob Try.prog.godebug = none := by kernel_rfl
theorem laidOut : laidOutB Try.prog = true := by kernel_rfl

set_option maxRecDepth 100000 in
theorem lifted (os : Os) (started : os.Started) (H : Type) (enc : TypeId × Value → H) :
    ReturnsInHanded {} Try.checked os 8 .any (Rows.fnExactTakeAllSpec.pre6 enc Try.prog Try.f8 Rows.fnExactTakeAllRow.domain false) (Rows.fnExactTakeAllSpec.post enc Try.prog Try.f8 false true false false) := by
  refine returnsInHanded_of_change (C := Try.checked) own started (by kernel_rfl) Try.func8
    (ChangeSpec.witness6 (enc := enc) (C := Try.checked) false ⟨#[], #[.agg #[.int .i64 0, .int .i64 0, .int .i64 0, .int .i64 0, .int .i64 0], .slice none 0 0], []⟩ 8 (by kernel_rfl) (by kernel_rfl) (by kernel_rfl) (by kernel_rfl)) ?_
  intro W base args ds gs before hval0 hW hcnd _
  have hval : ∀ (j : Nat) t v, Try.f8.params[j]? = some t → args[j]? = some v → Value.okWide Try.prog W .any base t v := hval0
  have hW' := hW
  obtain ⟨p, q, hA0, hV, rfl, hfz, hnd⟩ := hW
  have hA : DataW.TrodAll enc Try.prog W 0 (fun _ => true) true Try.f8.params.toList args.toList ds p := hA0
  rw [Try.params8] at hA hval
  obtain ⟨v0, vs0, d0, ds0, p0, q0, hargs, rfl, rfl, h0, r0⟩ := trodAll_cons hA
  obtain ⟨v1, vs1, d1, ds1, p1, q1, rfl, rfl, rfl, h1, r1⟩ := trodAll_cons r0
  obtain ⟨rfl, rfl, rfl⟩ := trodAll_nil r1
  obtain rfl : args = #[v0, v1] := by cases args; simp_all
  obtain ⟨rfl, rfl⟩ := trodVars_none hV
  have k0 := h0
  have lt0 : ∀ x ∈ p0, x.block < W.heap.size := by obtain ⟨m, hm⟩ := k0; exact DataW.trod_lt m _ _ _ hm
  have k1 := h1
  have lt1 : ∀ x ∈ p1, x.block < W.heap.size := by obtain ⟨m, hm⟩ := k1; exact DataW.trod_lt m _ _ _ hm
  obtain ⟨b0, rfl, w0⟩ := Tx.open_row (hval 0 52 v0 rfl rfl) h0
  obtain ⟨a1, len1, cap1, rfl⟩ := okWide_slice Try.underlying67 (hval 1 67 v1 rfl rfl)
  obtain ⟨fuel1, hf1⟩ := h1
  obtain ⟨A1, n1, c1, z1, hcs1, w1⟩ := Tx.open_boxes hf1
  simp [Value.cells] at hcs1
  obtain ⟨rfl, rfl, rfl⟩ := hcs1
  clear hA0 hval0
  refine (walk W b0 w0 _ _ _ z1 w1.1 w1.2.1 w1.2.2).mono fun e W' ⟨he, bel⟩ => ?_
  subst he
  exact ⟨_, rfl, _, _, _, [], _, [], hW', trodAll_mk1 (shut_bool Try.underlying4 _), (trodAll_cons_mk (Below.trod laidOut (by kernel_rfl) (of_decide_eq_true (by kernel_rfl)) k0 bel lt0) (trodAll_cons_mk (Below.trod laidOut (by kernel_rfl) (of_decide_eq_true (by kernel_rfl)) k1 bel lt1) trodAll_mk0)), rfl, bel.frame _, fun h => by cases h⟩

theorem over : Rows.fnExactTakeAllRow.holds Try.pinned (OpenSpec.ofChange Rows.fnExactTakeAllSpec) :=
  OpenClaim.holds_of_wide 8 Try.f8 rfl rfl rfl rfl rfl rfl rfl ⟨rfl, rfl, rfl, rfl, rfl⟩ rfl rfl rfl rfl rfl (by kernel_rfl) Try.func8 (by kernel_rfl)
    (of_decide_eq_true (by kernel_rfl)) (by unfold Func.isWrapper; first | (rw [if_pos (by decide +kernel)]; kernel_rfl) | (rw [if_neg (by decide +kernel)]; exact ⟨rfl, rfl⟩))
    (fun os started H enc _ => lifted os started H enc)

end Go.Proofs.Ythkgidibonkfbaa.fnExactTakeAll

namespace Go.Proofs.Ythkgidibonkfbaa
theorem fnExactTakeAll_proved : Rows.FnExactTakeAllSaid := fnExactTakeAll.over
#print axioms fnExactTakeAll_proved
end Go.Proofs.Ythkgidibonkfbaa

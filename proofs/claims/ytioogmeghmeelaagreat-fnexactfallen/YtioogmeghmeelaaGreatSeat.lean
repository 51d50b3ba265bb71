/-
  What SeatOk of the model answers. No conditions.
-/
import Derived.Deep.DeepCutAuto
import Derived.Test.YtioogmeghmeelaaGreatRow
import Derived.Test.YtioogmeghmeelaaGreatSeat0
import Derived.Test.YtioogmeghmeelaaGreatRegionR
namespace Go.Proofs.YtioogmeghmeelaaGreat.Tx
open Go.RowKit

theorem blk15 {w : World} {g : Nat} {v0 v1 v2 v3 v4 v5 v6 v7 v8 v9 v10 v11 v12 v13 v14 : Value} {t : TypeId} (h : w.heap[g]? = some (.cells #[v0, v1, v2, v3, v4, v5, v6, v7, v8, v9, v10, v11, v12, v13, v14] t (0, 0))) :
    (w.cell? ⟨g, 0, none⟩ = some v0 ∧ w.cell? ⟨g, 1, none⟩ = some v1 ∧ w.cell? ⟨g, 2, none⟩ = some v2 ∧ w.cell? ⟨g, 3, none⟩ = some v3 ∧ w.cell? ⟨g, 4, none⟩ = some v4 ∧ w.cell? ⟨g, 5, none⟩ = some v5 ∧ w.cell? ⟨g, 6, none⟩ = some v6 ∧ w.cell? ⟨g, 7, none⟩ = some v7 ∧ w.cell? ⟨g, 8, none⟩ = some v8 ∧ w.cell? ⟨g, 9, none⟩ = some v9 ∧ w.cell? ⟨g, 10, none⟩ = some v10 ∧ w.cell? ⟨g, 11, none⟩ = some v11 ∧ w.cell? ⟨g, 12, none⟩ = some v12 ∧ w.cell? ⟨g, 13, none⟩ = some v13 ∧ w.cell? ⟨g, 14, none⟩ = some v14) ∧
    (w.frozen? ⟨g, 0, none⟩ = false ∧ w.frozen? ⟨g, 1, none⟩ = false ∧ w.frozen? ⟨g, 2, none⟩ = false ∧ w.frozen? ⟨g, 3, none⟩ = false ∧ w.frozen? ⟨g, 4, none⟩ = false ∧ w.frozen? ⟨g, 5, none⟩ = false ∧ w.frozen? ⟨g, 6, none⟩ = false ∧ w.frozen? ⟨g, 7, none⟩ = false ∧ w.frozen? ⟨g, 8, none⟩ = false ∧ w.frozen? ⟨g, 9, none⟩ = false ∧ w.frozen? ⟨g, 10, none⟩ = false ∧ w.frozen? ⟨g, 11, none⟩ = false ∧ w.frozen? ⟨g, 12, none⟩ = false ∧ w.frozen? ⟨g, 13, none⟩ = false ∧ w.frozen? ⟨g, 14, none⟩ = false) :=
  ⟨⟨blk_cell h 0, blk_cell h 1, blk_cell h 2, blk_cell h 3, blk_cell h 4, blk_cell h 5, blk_cell h 6, blk_cell h 7, blk_cell h 8, blk_cell h 9, blk_cell h 10, blk_cell h 11, blk_cell h 12, blk_cell h 13, blk_cell h 14⟩, blk_frozen h 0, blk_frozen h 1, blk_frozen h 2, blk_frozen h 3, blk_frozen h 4, blk_frozen h 5, blk_frozen h 6, blk_frozen h 7, blk_frozen h 8, blk_frozen h 9, blk_frozen h 10, blk_frozen h 11, blk_frozen h 12, blk_frozen h 13, blk_frozen h 14⟩
theorem eq_row_zero (xu xs xh xa xn : Int) (w : World) : (Op.equalIn 10000 65 (.agg #[.int .i64 xu, .int .i64 xs, .int .i64 xh, .int .i64 xa, .int .i64 xn]) (.agg #[.int .i64 0, .int .i64 0, .int .i64 0, .int .i64 0, .int .i64 0])).run Tryz.prog w = .ok (RowV.isZ ⟨⟨xu, xs, xh, xa⟩, xn⟩) w := by
  unfold RowV.isZ
  dsimp only
  cases h0 : xu == 0
  · simp [go_sem, h0]
  cases h1 : xs == 0
  · simp [go_sem, h0, h1]
  cases h2 : xh == 0
  · simp [go_sem, h0, h1, h2]
  cases h3 : xa == 0
  · simp [go_sem, h0, h1, h2, h3]
  cases h4 : xn == 0
  · simp [go_sem, h0, h1, h2, h3, h4]
  simp [go_sem, h0, h1, h2, h3, h4]

set_option maxRecDepth 100000 in
set_option maxHeartbeats 16000000 in
theorem SeatOk_spec (s : SeatV) (A : Option Addr) (n cap : Nat) (w : World) : Calls Tryz.prog 30 #[s.val A n cap] w fun e w' => e = .returned (.bool (seatOkB s n)) ∧ Below w.heap.size w w' := by
  obtain ⟨st, sh, sd, sp, ⟨⟨eu, es, eh, ea⟩, en⟩, ⟨⟨fu, fs, fh, fa⟩, fn⟩⟩ := s
  have HV : Hid (SeatV.val ⟨st, sh, sd, sp, ⟨⟨eu, es, eh, ea⟩, en⟩, ⟨⟨fu, fs, fh, fa⟩, fn⟩⟩ A n cap = .agg #[.int .i64 st, .int .i64 sh, .int .i64 sd, .int .i64 sp, .int .i64 eu, .int .i64 es, .int .i64 eh, .int .i64 ea, .int .i64 en, .int .i64 fu, .int .i64 fs, .int .i64 fh, .int .i64 fa, .int .i64 fn, .slice A n cap]) := rfl
  rw [HV.out]
  obtain ⟨⟨ku, ks, kh, ka⟩, hk⟩ : ∃ x, forthK fs sh sd = x := ⟨_, rfl⟩
  obtain ⟨⟨qu, qs, qh, qa⟩, hq⟩ : ∃ x, earlyK fs sh = x := ⟨_, rfl⟩
  have cFK' := fun w' => ForthKey_spec fs sh sd w'
  have cEK' := fun w' => EarlyKey_spec fs sh w'
  have e1 : rightK ⟨4, fs, sh, sd⟩ = forthK fs sh sd := rfl
  have e2 : rightK ⟨1, fs, sh, 0⟩ = earlyK fs sh := rfl
  rw [e1, hk] at cFK'
  rw [e2, hq] at cEK'
  have cFK : Hid (∀ w' : World, Calls Tryz.prog 54 #[.int .i64 fs, .int .i64 sh, .int .i64 sd] w' fun e w'' => e = .returned (.agg #[.int .i64 ku, .int .i64 ks, .int .i64 kh, .int .i64 ka]) ∧ Below w'.heap.size w' w'') := fun w' => cFK' w'
  have cEK : Hid (∀ w' : World, Calls Tryz.prog 55 #[.int .i64 fs, .int .i64 sh] w' fun e w'' => e = .returned (.agg #[.int .i64 qu, .int .i64 qs, .int .i64 qh, .int .i64 qa]) ∧ Below w'.heap.size w' w'') := fun w' => cEK' w'
  have HR' : seatOkB ⟨st, sh, sd, sp, ⟨⟨eu, es, eh, ea⟩, en⟩, ⟨⟨fu, fs, fh, fa⟩, fn⟩⟩ n = ((st == 1 || st == 2) && (isDrawB sh && (isDrawB sd && (inB sp 1 3 && (rowOkB ⟨⟨eu, es, eh, ea⟩, en⟩ && (rowOkB ⟨⟨fu, fs, fh, fa⟩, fn⟩ && (decide (n ≤ 60) && (!KeyV.same ⟨fu, fs, fh, fa⟩ ⟨0, 0, 0, 0⟩ && (KeyV.same ⟨fu, fs, fh, fa⟩ (forthK fs sh sd) && (((fs == 0) == (sp == 1)) && (if st == 1 && sp == 3 then KeyV.same ⟨eu, es, eh, ea⟩ (earlyK fs sh) else RowV.isZ ⟨⟨eu, es, eh, ea⟩, en⟩))))))))))) := rfl
  rw [hk, hq] at HR'
  clear cFK' cEK' e1 e2 hk hq HV
  have cH : Hid (∀ w' : World, Calls Tryz.prog 51 #[.int .i64 sh] w' fun e w'' => e = .returned (.bool (isDrawB sh)) ∧ Below w'.heap.size w' w'') := fun w' => by exact (IsDraw_spec sh w').mono fun _ _ ⟨he, hw⟩ => ⟨he, hw ▸ Below.refl _ _⟩
  have cD : Hid (∀ w' : World, Calls Tryz.prog 51 #[.int .i64 sd] w' fun e w'' => e = .returned (.bool (isDrawB sd)) ∧ Below w'.heap.size w' w'') := fun w' => by exact (IsDraw_spec sd w').mono fun _ _ ⟨he, hw⟩ => ⟨he, hw ▸ Below.refl _ _⟩
  have cP : Hid (∀ w' : World, Calls Tryz.prog 52 #[.int .i64 sp, .int .i64 1, .int .i64 3] w' fun e w'' => e = .returned (.bool (inB sp 1 3)) ∧ Below w'.heap.size w' w'') := fun w' => by exact (l1In_b sp 1 3 w').mono fun _ _ ⟨he, hw⟩ => ⟨he, hw ▸ Below.refl _ _⟩
  have cE : Hid (∀ w' : World, Calls Tryz.prog 53 #[.agg #[.int .i64 eu, .int .i64 es, .int .i64 eh, .int .i64 ea, .int .i64 en]] w' fun e w'' => e = .returned (.bool (rowOkB ⟨⟨eu, es, eh, ea⟩, en⟩)) ∧ Below w'.heap.size w' w'') := fun w' => by exact RowOk_spec ⟨⟨eu, es, eh, ea⟩, en⟩ w'
  have cF : Hid (∀ w' : World, Calls Tryz.prog 53 #[.agg #[.int .i64 fu, .int .i64 fs, .int .i64 fh, .int .i64 fa, .int .i64 fn]] w' fun e w'' => e = .returned (.bool (rowOkB ⟨⟨fu, fs, fh, fa⟩, fn⟩)) ∧ Below w'.heap.size w' w'') := fun w' => by exact RowOk_spec ⟨⟨fu, fs, fh, fa⟩, fn⟩ w'
  have HR := Lib.hid HR'
  clear HR'
  generalize isDrawB sh = zh at HR cH
  generalize isDrawB sd = zd at HR cD
  generalize inB sp 1 3 = zp at HR cP
  generalize rowOkB ⟨⟨eu, es, eh, ea⟩, en⟩ = ze at HR cE
  generalize rowOkB ⟨⟨fu, fs, fh, fa⟩, fn⟩ = zf at HR cF
  obtain ⟨z0, h0⟩ : ∃ x, KeyV.same ⟨fu, fs, fh, fa⟩ ⟨0, 0, 0, 0⟩ = x := ⟨_, rfl⟩
  obtain ⟨zk, hzk⟩ : ∃ x, KeyV.same ⟨fu, fs, fh, fa⟩ ⟨ku, ks, kh, ka⟩ = x := ⟨_, rfl⟩
  rw [h0, hzk] at HR
  have H0 := Lib.hid h0
  have HK := Lib.hid hzk
  clear h0 hzk
  obtain ⟨W0, hW0⟩ : ∃ W, w.alloc (.cells #[.int .i64 st, .int .i64 sh, .int .i64 sd, .int .i64 sp, .int .i64 eu, .int .i64 es, .int .i64 eh, .int .i64 ea, .int .i64 en, .int .i64 fu, .int .i64 fs, .int .i64 fh, .int .i64 fa, .int .i64 fn, .slice A n cap] 68) = W := ⟨_, rfl⟩
  have K0 : Hid (Below w.heap.size w W0) := by rw [← hW0]; exact (Below.refl _ w).alloc (Nat.le_refl _) _
  have S0 : Hid (W0.heap[w.heap.size]? = some (.cells #[.int .i64 st, .int .i64 sh, .int .i64 sd, .int .i64 sp, .int .i64 eu, .int .i64 es, .int .i64 eh, .int .i64 ea, .int .i64 en, .int .i64 fu, .int .i64 fs, .int .i64 fh, .int .i64 fa, .int .i64 fn, .slice A n cap] 68)) := by rw [← hW0]; exact heap1 w _
  go_enter Tryz.func30, Tryz.ntmps30
  by_cases hst1 : st = 1
  ·
    have hs1 : (st == 1) = true := beq_int hst1
    have hs1' : (st != 1) = false := by rw [bne, hs1]; rfl
    rw [hs1] at HR
    clear hst1
    obtain ⟨⟨a0, a1, a2, a3, a4, a5, a6, a7, a8, a9, a10, a11, a12, a13, a14⟩, _⟩ := blk15 S0.out
    go_wp2_with fail
    clear a0 a1 a2 a3 a4 a5 a6 a7 a8 a9 a10 a11 a12 a13 a14
    clear hW0
    refine (cH.out _).mono ?_
    rintro e w1 ⟨rfl, hb⟩
    have S1 := Lib.hid (blk_on hb S0.out)
    have K1 := Lib.hid (K0.out.trans (hb.mono K0.out.size))
    clear hb S0 K0
    cases zh with
    | false =>
      have HE : Hid (seatOkB ⟨st, sh, sd, sp, ⟨⟨eu, es, eh, ea⟩, en⟩, ⟨⟨fu, fs, fh, fa⟩, fn⟩⟩ n = false) := by show _ = _; rw [HR.out]; simp
      go_wp2_with fail
      go_ret
      exact ⟨by rw [HE.out]; rfl, K1.out⟩
    | true =>
      obtain ⟨⟨a0, a1, a2, a3, a4, a5, a6, a7, a8, a9, a10, a11, a12, a13, a14⟩, _⟩ := blk15 S1.out
      go_wp2_with fail
      clear a0 a1 a2 a3 a4 a5 a6 a7 a8 a9 a10 a11 a12 a13 a14
      refine (cD.out _).mono ?_
      rintro e w2 ⟨rfl, hb⟩
      have S2 := Lib.hid (blk_on hb S1.out)
      have K2 := Lib.hid (K1.out.trans (hb.mono K1.out.size))
      clear hb S1 K1
      cases zd with
      | false =>
        have HE : Hid (seatOkB ⟨st, sh, sd, sp, ⟨⟨eu, es, eh, ea⟩, en⟩, ⟨⟨fu, fs, fh, fa⟩, fn⟩⟩ n = false) := by show _ = _; rw [HR.out]; simp
        go_wp2_with fail
        go_ret
        exact ⟨by rw [HE.out]; rfl, K2.out⟩
      | true =>
        obtain ⟨⟨a0, a1, a2, a3, a4, a5, a6, a7, a8, a9, a10, a11, a12, a13, a14⟩, _⟩ := blk15 S2.out
        go_wp2_with fail
        clear a0 a1 a2 a3 a4 a5 a6 a7 a8 a9 a10 a11 a12 a13 a14
        refine (cP.out _).mono ?_
        rintro e w3 ⟨rfl, hb⟩
        have S3 := Lib.hid (blk_on hb S2.out)
        have K3 := Lib.hid (K2.out.trans (hb.mono K2.out.size))
        clear hb S2 K2
        cases zp with
        | false =>
          have HE : Hid (seatOkB ⟨st, sh, sd, sp, ⟨⟨eu, es, eh, ea⟩, en⟩, ⟨⟨fu, fs, fh, fa⟩, fn⟩⟩ n = false) := by show _ = _; rw [HR.out]; simp
          go_wp2_with fail
          go_ret
          exact ⟨by rw [HE.out]; rfl, K3.out⟩
        | true =>
          obtain ⟨⟨a0, a1, a2, a3, a4, a5, a6, a7, a8, a9, a10, a11, a12, a13, a14⟩, _⟩ := blk15 S3.out
          go_wp2_with fail
          clear a0 a1 a2 a3 a4 a5 a6 a7 a8 a9 a10 a11 a12 a13 a14
          refine (cE.out _).mono ?_
          rintro e w4 ⟨rfl, hb⟩
          have S4 := Lib.hid (blk_on hb S3.out)
          have K4 := Lib.hid (K3.out.trans (hb.mono K3.out.size))
          clear hb S3 K3
          cases ze with
          | false =>
            have HE : Hid (seatOkB ⟨st, sh, sd, sp, ⟨⟨eu, es, eh, ea⟩, en⟩, ⟨⟨fu, fs, fh, fa⟩, fn⟩⟩ n = false) := by show _ = _; rw [HR.out]; simp
            go_wp2_with fail
            go_ret
            exact ⟨by rw [HE.out]; rfl, K4.out⟩
          | true =>
            obtain ⟨⟨a0, a1, a2, a3, a4, a5, a6, a7, a8, a9, a10, a11, a12, a13, a14⟩, _⟩ := blk15 S4.out
            go_wp2_with fail
            clear a0 a1 a2 a3 a4 a5 a6 a7 a8 a9 a10 a11 a12 a13 a14
            refine (cF.out _).mono ?_
            rintro e w5 ⟨rfl, hb⟩
            have S5 := Lib.hid (blk_on hb S4.out)
            have K5 := Lib.hid (K4.out.trans (hb.mono K4.out.size))
            clear hb S4 K4
            cases zf with
            | false =>
              have HE : Hid (seatOkB ⟨st, sh, sd, sp, ⟨⟨eu, es, eh, ea⟩, en⟩, ⟨⟨fu, fs, fh, fa⟩, fn⟩⟩ n = false) := by show _ = _; rw [HR.out]; simp
              go_wp2_with fail
              go_ret
              exact ⟨by rw [HE.out]; rfl, K5.out⟩
            | true =>
              by_cases hl : n ≤ 60
              ·
                have hl0 : decide (n ≤ 60) = true := decide_eq_true hl
                have hl1 : decide ((60 : Int) < (n : Int)) = false := decide_eq_false (by omega)
                have hl2 : ¬ (60 : Int) < (n : Int) := by omega
                clear hl
                obtain ⟨⟨a0, a1, a2, a3, a4, a5, a6, a7, a8, a9, a10, a11, a12, a13, a14⟩, _⟩ := blk15 S5.out
                obtain ⟨V6, hV6⟩ : ∃ V, w5.alloc (.cells #[.int .i64 fu, .int .i64 fs, .int .i64 fh, .int .i64 fa] 63) = V := ⟨_, rfl⟩
                have ltV6S : w.heap.size < w5.heap.size := blk_in S5.out
                have S6 : Hid (V6.heap[w.heap.size]? = some (.cells #[.int .i64 st, .int .i64 sh, .int .i64 sd, .int .i64 sp, .int .i64 eu, .int .i64 es, .int .i64 eh, .int .i64 ea, .int .i64 en, .int .i64 fu, .int .i64 fs, .int .i64 fh, .int .i64 fa, .int .i64 fn, .slice A n cap] 68)) := by rw [← hV6]; exact alloc_blk S5.out
                have hb : Below w5.heap.size w5 V6 := by rw [← hV6]; exact (Below.refl _ w5).alloc (Nat.le_refl _) _
                have K6 := Lib.hid (K5.out.trans (hb.mono K5.out.size))
                have KB6 : Hid (V6.heap[w5.heap.size]? = some (.cells #[.int .i64 fu, .int .i64 fs, .int .i64 fh, .int .i64 fa] 63)) := by rw [← hV6]; exact heap1 w5 _
                have lbV6 : w.heap.size ≤ w5.heap.size := K5.out.size
                clear hb S5 K5
                go_wp2_with fail
                clear a0 a1 a2 a3 a4 a5 a6 a7 a8 a9 a10 a11 a12 a13 a14
                clear hV6 hl1 hl2
                have hq0 := eq_agg fu fs fh fa 0 0 0 0
                have hq1 := eq_agg fu fs fh fa ku ks kh ka
                rw [show KeyV.same ⟨fu, fs, fh, fa⟩ ⟨0, 0, 0, 0⟩ = z0 from H0.out] at hq0
                rw [show KeyV.same ⟨fu, fs, fh, fa⟩ ⟨ku, ks, kh, ka⟩ = zk from HK.out] at hq1
                cases z0 with
                | true =>
                  have HE : Hid (seatOkB ⟨st, sh, sd, sp, ⟨⟨eu, es, eh, ea⟩, en⟩, ⟨⟨fu, fs, fh, fa⟩, fn⟩⟩ n = false) := by show _ = _; rw [HR.out]; simp
                  refine wp_region_own (W := V6) [] (fun _ => True) stays_true trivial [0, 0, 0, 0, 0, 0, 0, 0, 0, 0, 0, 1, 0, 0, 0, 0, 0, 0, 0, 0, 0, 0, 0] (by kernel_rfl) (by kernel_rfl) (by kernel_rfl) ?_
                  have fS : ∀ q : In (plainEnv V6 []), _ := fun q => (blk15 (q.block S6.out (by simp))).1
                  have fKB : ∀ q : In (plainEnv V6 []), _ := fun q => (blk4 (q.block KB6.out (by simp))).1
                  refine wpO_quiet 11 rfl (by kernel_rfl) ?_
                  simp only [List.take, List.drop]
                  repeat (go_big_quiet_step (fail))
                  refine wpQuiet_nil ?_
                  refine wpO_skip rfl ?_
                  simp only [Act.put, List.setIfInBounds_toArray, List.set_cons_succ, List.set_cons_zero]
                  refine wpO_quiet 11 rfl (by kernel_rfl) ?_
                  simp only [List.take, List.drop]
                  repeat (go_big_quiet_step (fail))
                  refine wpQuiet_nil ?_
                  refine wpO_nil ?_
                  rintro w7 hb' _
                  have hb := kept_below hb'
                  have S7 := Lib.hid (blk_on hb S6.out)
                  have KB7 := Lib.hid (blk_on hb KB6.out)
                  have K7 := Lib.hid (K6.out.trans (hb.mono K6.out.size))
                  clear fS fKB hb hb' S6 KB6 K6
                  go_wp2_with fail
                  go_ret
                  exact ⟨by rw [HE.out]; rfl, K7.out⟩
                | false =>
                  cases zk with
                  | false =>
                    have HE : Hid (seatOkB ⟨st, sh, sd, sp, ⟨⟨eu, es, eh, ea⟩, en⟩, ⟨⟨fu, fs, fh, fa⟩, fn⟩⟩ n = false) := by show _ = _; rw [HR.out]; simp
                    refine wp_region_own (W := V6) [] (fun _ => True) stays_true trivial [0, 0, 0, 0, 0, 0, 0, 0, 0, 0, 0, 1, 0, 0, 0, 0, 0, 0, 0, 0, 0, 0, 0] (by kernel_rfl) (by kernel_rfl) (by kernel_rfl) ?_
                    have fS : ∀ q : In (plainEnv V6 []), _ := fun q => (blk15 (q.block S6.out (by simp))).1
                    have fKB : ∀ q : In (plainEnv V6 []), _ := fun q => (blk4 (q.block KB6.out (by simp))).1
                    refine wpO_quiet 11 rfl (by kernel_rfl) ?_
                    simp only [List.take, List.drop]
                    repeat (go_big_quiet_step (fail))
                    refine wpQuiet_nil ?_
                    refine wpO_call (f := 54) (args := #[.int .i64 fs, .int .i64 sh, .int .i64 sd]) (.agg #[.int .i64 ku, .int .i64 ks, .int .i64 kh, .int .i64 ka]) rfl (fun w' => by simp [go_sem]) (fun w' hC _ => cFK.out w') ?_
                    simp only [Act.put, List.setIfInBounds_toArray, List.set_cons_succ, List.set_cons_zero]
                    refine wpO_quiet 11 rfl (by kernel_rfl) ?_
                    simp only [List.take, List.drop]
                    repeat (go_big_quiet_step (fail))
                    refine wpQuiet_nil ?_
                    refine wpO_nil ?_
                    rintro w7 hb' _
                    have hb := kept_below hb'
                    have S7 := Lib.hid (blk_on hb S6.out)
                    have KB7 := Lib.hid (blk_on hb KB6.out)
                    have K7 := Lib.hid (K6.out.trans (hb.mono K6.out.size))
                    clear fS fKB hb hb' S6 KB6 K6
                    go_wp2_with fail
                    go_ret
                    exact ⟨by rw [HE.out]; rfl, K7.out⟩
                  | true =>
                    cases hzs : ((fs == 0) == (sp == 1))
                    ·
                      have hzs1 : ((fs == 0) != (sp == 1)) = true := by rw [bne, hzs]; rfl
                      have HE : Hid (seatOkB ⟨st, sh, sd, sp, ⟨⟨eu, es, eh, ea⟩, en⟩, ⟨⟨fu, fs, fh, fa⟩, fn⟩⟩ n = false) := by show _ = _; rw [HR.out, hzs]; simp
                      refine wp_region_own (W := V6) [] (fun _ => True) stays_true trivial [0, 0, 0, 0, 0, 0, 0, 0, 0, 0, 0, 1, 0, 0, 0, 0, 0, 0, 0, 0, 0, 0, 0] (by kernel_rfl) (by kernel_rfl) (by kernel_rfl) ?_
                      have fS : ∀ q : In (plainEnv V6 []), _ := fun q => (blk15 (q.block S6.out (by simp))).1
                      have fKB : ∀ q : In (plainEnv V6 []), _ := fun q => (blk4 (q.block KB6.out (by simp))).1
                      refine wpO_quiet 11 rfl (by kernel_rfl) ?_
                      simp only [List.take, List.drop]
                      repeat (go_big_quiet_step (fail))
                      refine wpQuiet_nil ?_
                      refine wpO_call (f := 54) (args := #[.int .i64 fs, .int .i64 sh, .int .i64 sd]) (.agg #[.int .i64 ku, .int .i64 ks, .int .i64 kh, .int .i64 ka]) rfl (fun w' => by simp [go_sem]) (fun w' hC _ => cFK.out w') ?_
                      simp only [Act.put, List.setIfInBounds_toArray, List.set_cons_succ, List.set_cons_zero]
                      refine wpO_quiet 11 rfl (by kernel_rfl) ?_
                      simp only [List.take, List.drop]
                      repeat (go_big_quiet_step (fail))
                      refine wpQuiet_nil ?_
                      refine wpO_nil ?_
                      rintro w7 hb' _
                      have hb := kept_below hb'
                      have S7 := Lib.hid (blk_on hb S6.out)
                      have KB7 := Lib.hid (blk_on hb KB6.out)
                      have K7 := Lib.hid (K6.out.trans (hb.mono K6.out.size))
                      clear fS fKB hb hb' S6 KB6 K6
                      go_wp2_with fail
                      go_ret
                      exact ⟨by rw [HE.out]; rfl, K7.out⟩
                    ·
                      have hzs1 : ((fs == 0) != (sp == 1)) = false := by rw [bne, hzs]; rfl
                      rw [hzs] at HR
                      refine wp_region_own (W := V6) [] (fun _ => True) stays_true trivial [0, 0, 0, 0, 0, 0, 0, 0, 0, 0, 0, 1, 0, 0, 0, 0, 0, 0, 0, 0, 0, 0, 0] (by kernel_rfl) (by kernel_rfl) (by kernel_rfl) ?_
                      have fS : ∀ q : In (plainEnv V6 []), _ := fun q => (blk15 (q.block S6.out (by simp))).1
                      have fKB : ∀ q : In (plainEnv V6 []), _ := fun q => (blk4 (q.block KB6.out (by simp))).1
                      refine wpO_quiet 11 rfl (by kernel_rfl) ?_
                      simp only [List.take, List.drop]
                      repeat (go_big_quiet_step (fail))
                      refine wpQuiet_nil ?_
                      refine wpO_call (f := 54) (args := #[.int .i64 fs, .int .i64 sh, .int .i64 sd]) (.agg #[.int .i64 ku, .int .i64 ks, .int .i64 kh, .int .i64 ka]) rfl (fun w' => by simp [go_sem]) (fun w' hC _ => cFK.out w') ?_
                      simp only [Act.put, List.setIfInBounds_toArray, List.set_cons_succ, List.set_cons_zero]
                      refine wpO_quiet 11 rfl (by kernel_rfl) ?_
                      simp only [List.take, List.drop]
                      repeat (go_big_quiet_step (fail))
                      refine wpQuiet_nil ?_
                      refine wpO_nil ?_
                      rintro w7 hb' _
                      have hb := kept_below hb'
                      have S7 := Lib.hid (blk_on hb S6.out)
                      have KB7 := Lib.hid (blk_on hb KB6.out)
                      have K7 := Lib.hid (K6.out.trans (hb.mono K6.out.size))
                      clear fS fKB hb hb' S6 KB6 K6
                      obtain ⟨⟨a0, a1, a2, a3, a4, a5, a6, a7, a8, a9, a10, a11, a12, a13, a14⟩, _⟩ := blk15 S7.out

                      clear a0 a1 a2 a3 a4 a5 a6 a7 a8 a9 a10 a11 a12 a13 a14
                      by_cases hp3 : sp = 3
                      ·
                        have HE : Hid (seatOkB ⟨st, sh, sd, sp, ⟨⟨eu, es, eh, ea⟩, en⟩, ⟨⟨fu, fs, fh, fa⟩, fn⟩⟩ n = KeyV.same ⟨eu, es, eh, ea⟩ ⟨qu, qs, qh, qa⟩) := by show _ = _; rw [HR.out, hl0]; simp [hp3]
                        have hp3' : (sp == 3) = true := beq_int hp3
                        clear hp3
                        obtain ⟨⟨a0, a1, a2, a3, a4, a5, a6, a7, a8, a9, a10, a11, a12, a13, a14⟩, _⟩ := blk15 S7.out
                        go_wp2_with fail
                        clear a0 a1 a2 a3 a4 a5 a6 a7 a8 a9 a10 a11 a12 a13 a14
                        refine wp_region_own (W := w7) [] (fun _ => True) stays_true trivial [0, 0, 0, 0, 0, 0, 0, 1, 0, 0] (by kernel_rfl) (by kernel_rfl) (by kernel_rfl) ?_
                        have fS : ∀ q : In (plainEnv w7 []), _ := fun q => (blk15 (q.block S7.out (by simp))).1
                        have fKB : ∀ q : In (plainEnv w7 []), _ := fun q => (blk4 (q.block KB7.out (by simp))).1
                        have hqe := eq_agg eu es eh ea qu qs qh qa
                        refine wpO_quiet 7 rfl (by kernel_rfl) ?_
                        simp only [List.take, List.drop]
                        repeat (go_big_quiet_step (fail))
                        refine wpQuiet_nil ?_
                        refine wpO_call (f := 55) (args := #[.int .i64 fs, .int .i64 sh]) (.agg #[.int .i64 qu, .int .i64 qs, .int .i64 qh, .int .i64 qa]) rfl (fun w' => by simp [go_sem]) (fun w' hC _ => cEK.out w') ?_
                        simp only [Act.put, List.setIfInBounds_toArray, List.set_cons_succ, List.set_cons_zero]
                        refine wpO_quiet 2 rfl (by kernel_rfl) ?_
                        simp only [List.take, List.drop]
                        repeat (go_big_quiet_step (fail))
                        refine wpQuiet_nil ?_
                        refine wpO_nil ?_
                        rintro w8 hb' _
                        have hb := kept_below hb'
                        have S8 := Lib.hid (blk_on hb S7.out)
                        have KB8 := Lib.hid (blk_on hb KB7.out)
                        have K8 := Lib.hid (K7.out.trans (hb.mono K7.out.size))
                        clear fS fKB hb hb' S7 KB7 K7
                        go_wp2_with fail
                        go_ret
                        exact ⟨by rw [HE.out]; rfl, K8.out⟩
                      ·
                        have HE : Hid (seatOkB ⟨st, sh, sd, sp, ⟨⟨eu, es, eh, ea⟩, en⟩, ⟨⟨fu, fs, fh, fa⟩, fn⟩⟩ n = RowV.isZ ⟨⟨eu, es, eh, ea⟩, en⟩) := by show _ = _; rw [HR.out, hl0]; simp [hp3]
                        have hp3' : (sp == 3) = false := bne_int hp3
                        clear hp3
                        obtain ⟨⟨a0, a1, a2, a3, a4, a5, a6, a7, a8, a9, a10, a11, a12, a13, a14⟩, _⟩ := blk15 S7.out
                        have hz := eq_row_zero eu es eh ea en
                        go_wp2_with fail
                        go_ret
                        exact ⟨by rw [HE.out]; rfl, K7.out⟩
              ·
                have HE : Hid (seatOkB ⟨st, sh, sd, sp, ⟨⟨eu, es, eh, ea⟩, en⟩, ⟨⟨fu, fs, fh, fa⟩, fn⟩⟩ n = false) := by show _ = _; rw [HR.out, decide_eq_false hl]; simp
                have hl1 : decide ((60 : Int) < (n : Int)) = true := decide_eq_true (by omega)
                have hl2 : (60 : Int) < (n : Int) := by omega
                clear hl
                obtain ⟨⟨a0, a1, a2, a3, a4, a5, a6, a7, a8, a9, a10, a11, a12, a13, a14⟩, _⟩ := blk15 S5.out
                go_wp2_with fail
                go_ret
                exact ⟨by rw [HE.out]; rfl, K5.out⟩
  ·
    have hs1 : (st == 1) = false := bne_int hst1
    have hs1' : (st != 1) = true := by rw [bne, hs1]; rfl
    rw [hs1] at HR
    clear hst1
    by_cases hst2 : st = 2
    ·
      have hs2 : (st == 2) = true := beq_int hst2
      have hs2' : (st != 2) = false := by rw [bne, hs2]; rfl
      rw [hs2] at HR
      clear hst2
      obtain ⟨⟨a0, a1, a2, a3, a4, a5, a6, a7, a8, a9, a10, a11, a12, a13, a14⟩, _⟩ := blk15 S0.out
      go_wp2_with fail
      clear a0 a1 a2 a3 a4 a5 a6 a7 a8 a9 a10 a11 a12 a13 a14
      clear hW0
      refine (cH.out _).mono ?_
      rintro e w1 ⟨rfl, hb⟩
      have S1 := Lib.hid (blk_on hb S0.out)
      have K1 := Lib.hid (K0.out.trans (hb.mono K0.out.size))
      clear hb S0 K0
      cases zh with
      | false =>
        have HE : Hid (seatOkB ⟨st, sh, sd, sp, ⟨⟨eu, es, eh, ea⟩, en⟩, ⟨⟨fu, fs, fh, fa⟩, fn⟩⟩ n = false) := by show _ = _; rw [HR.out]; simp
        go_wp2_with fail
        go_ret
        exact ⟨by rw [HE.out]; rfl, K1.out⟩
      | true =>
        obtain ⟨⟨a0, a1, a2, a3, a4, a5, a6, a7, a8, a9, a10, a11, a12, a13, a14⟩, _⟩ := blk15 S1.out
        go_wp2_with fail
        clear a0 a1 a2 a3 a4 a5 a6 a7 a8 a9 a10 a11 a12 a13 a14
        refine (cD.out _).mono ?_
        rintro e w2 ⟨rfl, hb⟩
        have S2 := Lib.hid (blk_on hb S1.out)
        have K2 := Lib.hid (K1.out.trans (hb.mono K1.out.size))
        clear hb S1 K1
        cases zd with
        | false =>
          have HE : Hid (seatOkB ⟨st, sh, sd, sp, ⟨⟨eu, es, eh, ea⟩, en⟩, ⟨⟨fu, fs, fh, fa⟩, fn⟩⟩ n = false) := by show _ = _; rw [HR.out]; simp
          go_wp2_with fail
          go_ret
          exact ⟨by rw [HE.out]; rfl, K2.out⟩
        | true =>
          obtain ⟨⟨a0, a1, a2, a3, a4, a5, a6, a7, a8, a9, a10, a11, a12, a13, a14⟩, _⟩ := blk15 S2.out
          go_wp2_with fail
          clear a0 a1 a2 a3 a4 a5 a6 a7 a8 a9 a10 a11 a12 a13 a14
          refine (cP.out _).mono ?_
          rintro e w3 ⟨rfl, hb⟩
          have S3 := Lib.hid (blk_on hb S2.out)
          have K3 := Lib.hid (K2.out.trans (hb.mono K2.out.size))
          clear hb S2 K2
          cases zp with
          | false =>
            have HE : Hid (seatOkB ⟨st, sh, sd, sp, ⟨⟨eu, es, eh, ea⟩, en⟩, ⟨⟨fu, fs, fh, fa⟩, fn⟩⟩ n = false) := by show _ = _; rw [HR.out]; simp
            go_wp2_with fail
            go_ret
            exact ⟨by rw [HE.out]; rfl, K3.out⟩
          | true =>
            obtain ⟨⟨a0, a1, a2, a3, a4, a5, a6, a7, a8, a9, a10, a11, a12, a13, a14⟩, _⟩ := blk15 S3.out
            go_wp2_with fail
            clear a0 a1 a2 a3 a4 a5 a6 a7 a8 a9 a10 a11 a12 a13 a14
            refine (cE.out _).mono ?_
            rintro e w4 ⟨rfl, hb⟩
            have S4 := Lib.hid (blk_on hb S3.out)
            have K4 := Lib.hid (K3.out.trans (hb.mono K3.out.size))
            clear hb S3 K3
            cases ze with
            | false =>
              have HE : Hid (seatOkB ⟨st, sh, sd, sp, ⟨⟨eu, es, eh, ea⟩, en⟩, ⟨⟨fu, fs, fh, fa⟩, fn⟩⟩ n = false) := by show _ = _; rw [HR.out]; simp
              go_wp2_with fail
              go_ret
              exact ⟨by rw [HE.out]; rfl, K4.out⟩
            | true =>
              obtain ⟨⟨a0, a1, a2, a3, a4, a5, a6, a7, a8, a9, a10, a11, a12, a13, a14⟩, _⟩ := blk15 S4.out
              go_wp2_with fail
              clear a0 a1 a2 a3 a4 a5 a6 a7 a8 a9 a10 a11 a12 a13 a14
              refine (cF.out _).mono ?_
              rintro e w5 ⟨rfl, hb⟩
              have S5 := Lib.hid (blk_on hb S4.out)
              have K5 := Lib.hid (K4.out.trans (hb.mono K4.out.size))
              clear hb S4 K4
              cases zf with
              | false =>
                have HE : Hid (seatOkB ⟨st, sh, sd, sp, ⟨⟨eu, es, eh, ea⟩, en⟩, ⟨⟨fu, fs, fh, fa⟩, fn⟩⟩ n = false) := by show _ = _; rw [HR.out]; simp
                go_wp2_with fail
                go_ret
                exact ⟨by rw [HE.out]; rfl, K5.out⟩
              | true =>
                by_cases hl : n ≤ 60
                ·
                  have hl0 : decide (n ≤ 60) = true := decide_eq_true hl
                  have hl1 : decide ((60 : Int) < (n : Int)) = false := decide_eq_false (by omega)
                  have hl2 : ¬ (60 : Int) < (n : Int) := by omega
                  clear hl
                  obtain ⟨⟨a0, a1, a2, a3, a4, a5, a6, a7, a8, a9, a10, a11, a12, a13, a14⟩, _⟩ := blk15 S5.out
                  obtain ⟨V6, hV6⟩ : ∃ V, w5.alloc (.cells #[.int .i64 fu, .int .i64 fs, .int .i64 fh, .int .i64 fa] 63) = V := ⟨_, rfl⟩
                  have ltV6S : w.heap.size < w5.heap.size := blk_in S5.out
                  have S6 : Hid (V6.heap[w.heap.size]? = some (.cells #[.int .i64 st, .int .i64 sh, .int .i64 sd, .int .i64 sp, .int .i64 eu, .int .i64 es, .int .i64 eh, .int .i64 ea, .int .i64 en, .int .i64 fu, .int .i64 fs, .int .i64 fh, .int .i64 fa, .int .i64 fn, .slice A n cap] 68)) := by rw [← hV6]; exact alloc_blk S5.out
                  have hb : Below w5.heap.size w5 V6 := by rw [← hV6]; exact (Below.refl _ w5).alloc (Nat.le_refl _) _
                  have K6 := Lib.hid (K5.out.trans (hb.mono K5.out.size))
                  have KB6 : Hid (V6.heap[w5.heap.size]? = some (.cells #[.int .i64 fu, .int .i64 fs, .int .i64 fh, .int .i64 fa] 63)) := by rw [← hV6]; exact heap1 w5 _
                  have lbV6 : w.heap.size ≤ w5.heap.size := K5.out.size
                  clear hb S5 K5
                  go_wp2_with fail
                  clear a0 a1 a2 a3 a4 a5 a6 a7 a8 a9 a10 a11 a12 a13 a14
                  clear hV6 hl1 hl2
                  have hq0 := eq_agg fu fs fh fa 0 0 0 0
                  have hq1 := eq_agg fu fs fh fa ku ks kh ka
                  rw [show KeyV.same ⟨fu, fs, fh, fa⟩ ⟨0, 0, 0, 0⟩ = z0 from H0.out] at hq0
                  rw [show KeyV.same ⟨fu, fs, fh, fa⟩ ⟨ku, ks, kh, ka⟩ = zk from HK.out] at hq1
                  cases z0 with
                  | true =>
                    have HE : Hid (seatOkB ⟨st, sh, sd, sp, ⟨⟨eu, es, eh, ea⟩, en⟩, ⟨⟨fu, fs, fh, fa⟩, fn⟩⟩ n = false) := by show _ = _; rw [HR.out]; simp
                    refine wp_region_own (W := V6) [] (fun _ => True) stays_true trivial [0, 0, 0, 0, 0, 0, 0, 0, 0, 0, 0, 1, 0, 0, 0, 0, 0, 0, 0, 0, 0, 0, 0] (by kernel_rfl) (by kernel_rfl) (by kernel_rfl) ?_
                    have fS : ∀ q : In (plainEnv V6 []), _ := fun q => (blk15 (q.block S6.out (by simp))).1
                    have fKB : ∀ q : In (plainEnv V6 []), _ := fun q => (blk4 (q.block KB6.out (by simp))).1
                    refine wpO_quiet 11 rfl (by kernel_rfl) ?_
                    simp only [List.take, List.drop]
                    repeat (go_big_quiet_step (fail))
                    refine wpQuiet_nil ?_
                    refine wpO_skip rfl ?_
                    simp only [Act.put, List.setIfInBounds_toArray, List.set_cons_succ, List.set_cons_zero]
                    refine wpO_quiet 11 rfl (by kernel_rfl) ?_
                    simp only [List.take, List.drop]
                    repeat (go_big_quiet_step (fail))
                    refine wpQuiet_nil ?_
                    refine wpO_nil ?_
                    rintro w7 hb' _
                    have hb := kept_below hb'
                    have S7 := Lib.hid (blk_on hb S6.out)
                    have KB7 := Lib.hid (blk_on hb KB6.out)
                    have K7 := Lib.hid (K6.out.trans (hb.mono K6.out.size))
                    clear fS fKB hb hb' S6 KB6 K6
                    go_wp2_with fail
                    go_ret
                    exact ⟨by rw [HE.out]; rfl, K7.out⟩
                  | false =>
                    cases zk with
                    | false =>
                      have HE : Hid (seatOkB ⟨st, sh, sd, sp, ⟨⟨eu, es, eh, ea⟩, en⟩, ⟨⟨fu, fs, fh, fa⟩, fn⟩⟩ n = false) := by show _ = _; rw [HR.out]; simp
                      refine wp_region_own (W := V6) [] (fun _ => True) stays_true trivial [0, 0, 0, 0, 0, 0, 0, 0, 0, 0, 0, 1, 0, 0, 0, 0, 0, 0, 0, 0, 0, 0, 0] (by kernel_rfl) (by kernel_rfl) (by kernel_rfl) ?_
                      have fS : ∀ q : In (plainEnv V6 []), _ := fun q => (blk15 (q.block S6.out (by simp))).1
                      have fKB : ∀ q : In (plainEnv V6 []), _ := fun q => (blk4 (q.block KB6.out (by simp))).1
                      refine wpO_quiet 11 rfl (by kernel_rfl) ?_
                      simp only [List.take, List.drop]
                      repeat (go_big_quiet_step (fail))
                      refine wpQuiet_nil ?_
                      refine wpO_call (f := 54) (args := #[.int .i64 fs, .int .i64 sh, .int .i64 sd]) (.agg #[.int .i64 ku, .int .i64 ks, .int .i64 kh, .int .i64 ka]) rfl (fun w' => by simp [go_sem]) (fun w' hC _ => cFK.out w') ?_
                      simp only [Act.put, List.setIfInBounds_toArray, List.set_cons_succ, List.set_cons_zero]
                      refine wpO_quiet 11 rfl (by kernel_rfl) ?_
                      simp only [List.take, List.drop]
                      repeat (go_big_quiet_step (fail))
                      refine wpQuiet_nil ?_
                      refine wpO_nil ?_
                      rintro w7 hb' _
                      have hb := kept_below hb'
                      have S7 := Lib.hid (blk_on hb S6.out)
                      have KB7 := Lib.hid (blk_on hb KB6.out)
                      have K7 := Lib.hid (K6.out.trans (hb.mono K6.out.size))
                      clear fS fKB hb hb' S6 KB6 K6
                      go_wp2_with fail
                      go_ret
                      exact ⟨by rw [HE.out]; rfl, K7.out⟩
                    | true =>
                      cases hzs : ((fs == 0) == (sp == 1))
                      ·
                        have hzs1 : ((fs == 0) != (sp == 1)) = true := by rw [bne, hzs]; rfl
                        have HE : Hid (seatOkB ⟨st, sh, sd, sp, ⟨⟨eu, es, eh, ea⟩, en⟩, ⟨⟨fu, fs, fh, fa⟩, fn⟩⟩ n = false) := by show _ = _; rw [HR.out, hzs]; simp
                        refine wp_region_own (W := V6) [] (fun _ => True) stays_true trivial [0, 0, 0, 0, 0, 0, 0, 0, 0, 0, 0, 1, 0, 0, 0, 0, 0, 0, 0, 0, 0, 0, 0] (by kernel_rfl) (by kernel_rfl) (by kernel_rfl) ?_
                        have fS : ∀ q : In (plainEnv V6 []), _ := fun q => (blk15 (q.block S6.out (by simp))).1
                        have fKB : ∀ q : In (plainEnv V6 []), _ := fun q => (blk4 (q.block KB6.out (by simp))).1
                        refine wpO_quiet 11 rfl (by kernel_rfl) ?_
                        simp only [List.take, List.drop]
                        repeat (go_big_quiet_step (fail))
                        refine wpQuiet_nil ?_
                        refine wpO_call (f := 54) (args := #[.int .i64 fs, .int .i64 sh, .int .i64 sd]) (.agg #[.int .i64 ku, .int .i64 ks, .int .i64 kh, .int .i64 ka]) rfl (fun w' => by simp [go_sem]) (fun w' hC _ => cFK.out w') ?_
                        simp only [Act.put, List.setIfInBounds_toArray, List.set_cons_succ, List.set_cons_zero]
                        refine wpO_quiet 11 rfl (by kernel_rfl) ?_
                        simp only [List.take, List.drop]
                        repeat (go_big_quiet_step (fail))
                        refine wpQuiet_nil ?_
                        refine wpO_nil ?_
                        rintro w7 hb' _
                        have hb := kept_below hb'
                        have S7 := Lib.hid (blk_on hb S6.out)
                        have KB7 := Lib.hid (blk_on hb KB6.out)
                        have K7 := Lib.hid (K6.out.trans (hb.mono K6.out.size))
                        clear fS fKB hb hb' S6 KB6 K6
                        go_wp2_with fail
                        go_ret
                        exact ⟨by rw [HE.out]; rfl, K7.out⟩
                      ·
                        have hzs1 : ((fs == 0) != (sp == 1)) = false := by rw [bne, hzs]; rfl
                        rw [hzs] at HR
                        refine wp_region_own (W := V6) [] (fun _ => True) stays_true trivial [0, 0, 0, 0, 0, 0, 0, 0, 0, 0, 0, 1, 0, 0, 0, 0, 0, 0, 0, 0, 0, 0, 0] (by kernel_rfl) (by kernel_rfl) (by kernel_rfl) ?_
                        have fS : ∀ q : In (plainEnv V6 []), _ := fun q => (blk15 (q.block S6.out (by simp))).1
                        have fKB : ∀ q : In (plainEnv V6 []), _ := fun q => (blk4 (q.block KB6.out (by simp))).1
                        refine wpO_quiet 11 rfl (by kernel_rfl) ?_
                        simp only [List.take, List.drop]
                        repeat (go_big_quiet_step (fail))
                        refine wpQuiet_nil ?_
                        refine wpO_call (f := 54) (args := #[.int .i64 fs, .int .i64 sh, .int .i64 sd]) (.agg #[.int .i64 ku, .int .i64 ks, .int .i64 kh, .int .i64 ka]) rfl (fun w' => by simp [go_sem]) (fun w' hC _ => cFK.out w') ?_
                        simp only [Act.put, List.setIfInBounds_toArray, List.set_cons_succ, List.set_cons_zero]
                        refine wpO_quiet 11 rfl (by kernel_rfl) ?_
                        simp only [List.take, List.drop]
                        repeat (go_big_quiet_step (fail))
                        refine wpQuiet_nil ?_
                        refine wpO_nil ?_
                        rintro w7 hb' _
                        have hb := kept_below hb'
                        have S7 := Lib.hid (blk_on hb S6.out)
                        have KB7 := Lib.hid (blk_on hb KB6.out)
                        have K7 := Lib.hid (K6.out.trans (hb.mono K6.out.size))
                        clear fS fKB hb hb' S6 KB6 K6
                        obtain ⟨⟨a0, a1, a2, a3, a4, a5, a6, a7, a8, a9, a10, a11, a12, a13, a14⟩, _⟩ := blk15 S7.out

                        clear a0 a1 a2 a3 a4 a5 a6 a7 a8 a9 a10 a11 a12 a13 a14
                        have HE : Hid (seatOkB ⟨st, sh, sd, sp, ⟨⟨eu, es, eh, ea⟩, en⟩, ⟨⟨fu, fs, fh, fa⟩, fn⟩⟩ n = RowV.isZ ⟨⟨eu, es, eh, ea⟩, en⟩) := by show _ = _; rw [HR.out, hl0]; simp
                        obtain ⟨⟨a0, a1, a2, a3, a4, a5, a6, a7, a8, a9, a10, a11, a12, a13, a14⟩, _⟩ := blk15 S7.out
                        have hz := eq_row_zero eu es eh ea en
                        go_wp2_with fail
                        go_ret
                        exact ⟨by rw [HE.out]; rfl, K7.out⟩
                ·
                  have HE : Hid (seatOkB ⟨st, sh, sd, sp, ⟨⟨eu, es, eh, ea⟩, en⟩, ⟨⟨fu, fs, fh, fa⟩, fn⟩⟩ n = false) := by show _ = _; rw [HR.out, decide_eq_false hl]; simp
                  have hl1 : decide ((60 : Int) < (n : Int)) = true := decide_eq_true (by omega)
                  have hl2 : (60 : Int) < (n : Int) := by omega
                  clear hl
                  obtain ⟨⟨a0, a1, a2, a3, a4, a5, a6, a7, a8, a9, a10, a11, a12, a13, a14⟩, _⟩ := blk15 S5.out
                  go_wp2_with fail
                  go_ret
                  exact ⟨by rw [HE.out]; rfl, K5.out⟩
    ·
      have hs2 : (st == 2) = false := bne_int hst2
      have hs2' : (st != 2) = true := by rw [bne, hs2]; rfl
      have HE : Hid (seatOkB ⟨st, sh, sd, sp, ⟨⟨eu, es, eh, ea⟩, en⟩, ⟨⟨fu, fs, fh, fa⟩, fn⟩⟩ n = false) := by show _ = _; rw [HR.out, hs2]; simp
      obtain ⟨⟨a0, a1, a2, a3, a4, a5, a6, a7, a8, a9, a10, a11, a12, a13, a14⟩, _⟩ := blk15 S0.out
      go_wp2_with fail
      go_ret
      exact ⟨by rw [HE.out]; rfl, K0.out⟩
end Go.Proofs.YtioogmeghmeelaaGreat.Tx

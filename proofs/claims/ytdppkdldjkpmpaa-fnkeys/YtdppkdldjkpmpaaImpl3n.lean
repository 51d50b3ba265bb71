/-
  What NextKey of the program answers. No conditions.
-/
import Derived.BigQuiet
import Derived.Deep.QuietTactic
import Derived.Test.YtdppkdldjkpmpaaImpl3
namespace Go.Proofs.Ytdppkdldjkpmpaa.Tx
open Go.RowKit

theorem ok_345 (s h a : Int) : keyOkB ⟨4, s, h, a⟩ = keyOkB ⟨3, s, h, a⟩ ∧ keyOkB ⟨5, s, h, a⟩ = keyOkB ⟨3, s, h, a⟩ := ⟨rfl, rfl⟩
theorem right_not {u s h a : Int} (hk : keyOkB ⟨3, s, h, a⟩ = false) (hu : inB u 3 5 = true) : rightK ⟨u, s, h, a⟩ = .zero := by
  obtain ⟨h3, h5⟩ := inB_true hu
  have : u = 3 ∨ u = 4 ∨ u = 5 := by omega
  rcases this with rfl | rfl | rfl
  · exact rightK_no hk
  · exact rightK_no ((ok_345 s h a).1.trans hk)
  · exact rightK_no ((ok_345 s h a).2.trans hk)
theorem next_bad {u s h a : Int} (hk : keyOkB ⟨3, s, h, a⟩ = false) : nextK ⟨u, s, h, a⟩ = .zero := by
  cases hu : inB u 3 5 with
  | false => simp [nextK, hu]
  | true =>
    obtain ⟨h3, h5⟩ := inB_true hu
    have : u = 3 ∨ u = 4 ∨ u = 5 := by omega
    rcases this with rfl | rfl | rfl
    · simp [nextK, hk]
    · simp [nextK, (ok_345 s h a).1.trans hk]
    · simp [nextK, (ok_345 s h a).2.trans hk]
theorem next_3 {s h a : Int} {k : KeyV} (e : k = rightK ⟨3, s, h, a⟩) : nextK k = rightK ⟨4, s, h, a⟩ := by
  subst e
  cases hk : keyOkB ⟨3, s, h, a⟩ with
  | false => rw [rightK_no hk, right_not hk rfl]; rfl
  | true => rw [rightK_yes hk, rightK_yes ((ok_345 s h a).1.trans hk), nextK, hk]; rfl
theorem next_4 {s h a : Int} {k : KeyV} (e : k = rightK ⟨4, s, h, a⟩) : nextK k = rightK ⟨5, s, h, a⟩ := by
  subst e
  cases hk : keyOkB ⟨3, s, h, a⟩ with
  | false => rw [right_not hk rfl, right_not hk rfl]; rfl
  | true => rw [rightK_yes ((ok_345 s h a).1.trans hk), rightK_yes ((ok_345 s h a).2.trans hk), nextK, (ok_345 s h a).1.trans hk]; rfl
theorem next_5 {s h a : Int} {k : KeyV} (e : k = rightK ⟨5, s, h, a⟩) : nextK k = rightK ⟨3, s, h, a⟩ := by
  subst e
  cases hk : keyOkB ⟨3, s, h, a⟩ with
  | false => rw [right_not hk rfl, rightK_no hk]; rfl
  | true => rw [rightK_yes hk, rightK_yes ((ok_345 s h a).2.trans hk), nextK, (ok_345 s h a).2.trans hk]; rfl
theorem next_0 {u s h a : Int} (e3 : (⟨u, s, h, a⟩ : KeyV) ≠ rightK ⟨3, s, h, a⟩) (e4 : (⟨u, s, h, a⟩ : KeyV) ≠ rightK ⟨4, s, h, a⟩) (e5 : (⟨u, s, h, a⟩ : KeyV) ≠ rightK ⟨5, s, h, a⟩) : nextK ⟨u, s, h, a⟩ = .zero := by
  cases hk : keyOkB ⟨3, s, h, a⟩ with
  | false => exact next_bad hk
  | true =>
    rw [rightK_yes hk] at e3
    rw [rightK_yes ((ok_345 s h a).1.trans hk)] at e4
    rw [rightK_yes ((ok_345 s h a).2.trans hk)] at e5
    cases hu : inB u 3 5 with
    | false => simp [nextK, hu]
    | true =>
      obtain ⟨h3, h5⟩ := inB_true hu
      have : u = 3 ∨ u = 4 ∨ u = 5 := by omega
      rcases this with rfl | rfl | rfl
      · exact absurd rfl e3
      · exact absurd rfl e4
      · exact absurd rfl e5

theorem eq_agg (u s h a u' s' h' a' : Int) (w : World) : (Op.equalIn 10000 27 (.agg #[.int .i64 u, .int .i64 s, .int .i64 h, .int .i64 a]) (.agg #[.int .i64 u', .int .i64 s', .int .i64 h', .int .i64 a'])).run Try.prog w = .ok (KeyV.same ⟨u, s, h, a⟩ ⟨u', s', h', a'⟩) w := eq_key ⟨u, s, h, a⟩ ⟨u', s', h', a'⟩ w

set_option maxHeartbeats 2000000 in
theorem NextKey_impl (k : KeyV) (w : World) : Calls Try.prog 15 #[k.val] w fun e w' => e = .returned (nextK k).val ∧ Below w.heap.size w w' := by
  obtain ⟨u, s, h, a⟩ := k
  have HV : Hid (KeyV.val ⟨u, s, h, a⟩ = .agg #[.int .i64 u, .int .i64 s, .int .i64 h, .int .i64 a]) := rfl
  rw [HV.out]
  go_enter Try.func15, Try.ntmps15
  go_wp2
  go_quiet (fail)
  obtain ⟨W, hW⟩ : ∃ W, W = ((w.alloc (.cells #[.int .i64 u, .int .i64 s, .int .i64 h, .int .i64 a] 27)).alloc (.cells #[.int .i64 0, .int .i64 0, .int .i64 0, .int .i64 0] 27)).drewN nq := ⟨_, rfl⟩
  rw [← hW]
  have hk : W.heap[w.heap.size]? = some (.cells #[.int .i64 u, .int .i64 s, .int .i64 h, .int .i64 a] 27) := hW ▸ heap2a w _ _
  have hr : W.heap[w.heap.size + 1]? = some (.cells #[.int .i64 0, .int .i64 0, .int .i64 0, .int .i64 0] 27) := hW ▸ heap2b w _ _
  have HB0 : Hid (Below w.heap.size w W) := hW ▸ drewN_below (((Below.refl _ w).alloc (Nat.le_refl _) _).alloc (by simp) _) nq
  clear hW
  obtain ⟨⟨a0, a1, a2, a3⟩, _⟩ := blk4 hk
  have HK0 := Lib.hid hk
  have HR0 := Lib.hid hr
  clear hk hr
  go_wp2_with fail
  refine (HandKey_impl s h a _).mono ?_
  rintro e w1 ⟨rfl, hb⟩
  obtain ⟨⟨u', s', h', a'⟩, hk'⟩ : ∃ k', rightK ⟨3, s, h, a⟩ = k' := ⟨_, rfl⟩
  have HK3 := Lib.hid hk'
  rw [hk']
  clear hk'
  have HR1 := Lib.hid ((hb.block _ (blk_in HR0.out)).trans HR0.out)
  have HB1 := Lib.hid (HB0.out.trans (hb.mono HB0.out.size))
  clear hb
  clear a0 a1 a2 a3
  have hq := eq_agg u s h a u' s' h' a'
  unfold KeyV.val
  cases e : KeyV.same ⟨u, s, h, a⟩ ⟨u', s', h', a'⟩ with
  | true =>
    have HN := Lib.hid (next_3 ((KeyV.same_iff.1 e).trans HK3.out.symm))
    rw [e] at hq
    clear e
    go_wp2_with fail
    refine (ForthKey_impl s h a _).mono ?_
    rintro e w2 ⟨rfl, hb⟩
    obtain ⟨⟨x0, x1, x2, x3⟩, hx⟩ : ∃ k', rightK ⟨4, s, h, a⟩ = k' := ⟨_, rfl⟩
    have HX := Lib.hid hx
    rw [hx]
    clear hx
    obtain ⟨⟨b0, b1, b2, b3⟩, q0, q1, q2, q3⟩ := blk4 ((hb.block _ (blk_in HR1.out)).trans HR1.out)
    have HB2 := Lib.hid (HB1.out.trans (hb.mono HB1.out.size))
    clear hb
    unfold KeyV.val
    go_wp2
    refine bodyPost_ret (v := .agg #[.int .i64 x0, .int .i64 x1, .int .i64 x2, .int .i64 x3]) ?_ rfl ⟨by rw [HN.out, HX.out]; rfl, below_set4 HB2.out (by omega) _ _ _ _⟩
    obtain ⟨s0, s1, s2, s3⟩ := set4_cell (w := w2) (g := w.heap.size + 1) (fun i hi => by match i, hi with | 0, _ => rw [b0]; rfl | 1, _ => rw [b1]; rfl | 2, _ => rw [b2]; rfl | 3, _ => rw [b3]; rfl) (.int .i64 x0) (.int .i64 x1) (.int .i64 x2) (.int .i64 x3)
    simp [results, Try.f15, go_sem, s0, s1, s2, s3]
  | false =>
    have HE3 : Hid ((⟨u, s, h, a⟩ : KeyV) ≠ rightK ⟨3, s, h, a⟩) := fun x => absurd (KeyV.same_iff.2 (x.trans HK3.out)) (by rw [e]; exact Bool.false_ne_true)
    rw [e] at hq
    clear e
    go_wp2_with fail
    refine (ForthKey_impl s h a _).mono ?_
    rintro e w2 ⟨rfl, hb⟩
    obtain ⟨⟨u', s', h', a'⟩, hk'⟩ : ∃ k', rightK ⟨4, s, h, a⟩ = k' := ⟨_, rfl⟩
    have HK4 := Lib.hid hk'
    rw [hk']
    clear hk'
    have HR2 := Lib.hid ((hb.block _ (blk_in HR1.out)).trans HR1.out)
    have HB2 := Lib.hid (HB1.out.trans (hb.mono HB1.out.size))
    clear hb
    have hq := eq_agg u s h a u' s' h' a'
    unfold KeyV.val
    cases e : KeyV.same ⟨u, s, h, a⟩ ⟨u', s', h', a'⟩ with
    | true =>
      have HN := Lib.hid (next_4 ((KeyV.same_iff.1 e).trans HK4.out.symm))
      rw [e] at hq
      clear e
      go_wp2_with fail
      refine (BackKey_impl s h a _).mono ?_
      rintro e w3 ⟨rfl, hb⟩
      obtain ⟨⟨x0, x1, x2, x3⟩, hx⟩ : ∃ k', rightK ⟨5, s, h, a⟩ = k' := ⟨_, rfl⟩
      have HX := Lib.hid hx
      rw [hx]
      clear hx
      obtain ⟨⟨b0, b1, b2, b3⟩, q0, q1, q2, q3⟩ := blk4 ((hb.block _ (blk_in HR2.out)).trans HR2.out)
      have HB3 := Lib.hid (HB2.out.trans (hb.mono HB2.out.size))
      clear hb
      unfold KeyV.val
      go_wp2
      refine bodyPost_ret (v := .agg #[.int .i64 x0, .int .i64 x1, .int .i64 x2, .int .i64 x3]) ?_ rfl ⟨by rw [HN.out, HX.out]; rfl, below_set4 HB3.out (by omega) _ _ _ _⟩
      obtain ⟨s0, s1, s2, s3⟩ := set4_cell (w := w3) (g := w.heap.size + 1) (fun i hi => by match i, hi with | 0, _ => rw [b0]; rfl | 1, _ => rw [b1]; rfl | 2, _ => rw [b2]; rfl | 3, _ => rw [b3]; rfl) (.int .i64 x0) (.int .i64 x1) (.int .i64 x2) (.int .i64 x3)
      simp [results, Try.f15, go_sem, s0, s1, s2, s3]
    | false =>
      have HE4 : Hid ((⟨u, s, h, a⟩ : KeyV) ≠ rightK ⟨4, s, h, a⟩) := fun x => absurd (KeyV.same_iff.2 (x.trans HK4.out)) (by rw [e]; exact Bool.false_ne_true)
      rw [e] at hq
      clear e
      go_wp2_with fail
      refine (BackKey_impl s h a _).mono ?_
      rintro e w3 ⟨rfl, hb⟩
      obtain ⟨⟨u', s', h', a'⟩, hk'⟩ : ∃ k', rightK ⟨5, s, h, a⟩ = k' := ⟨_, rfl⟩
      have HK5 := Lib.hid hk'
      rw [hk']
      clear hk'
      have HR3 := Lib.hid ((hb.block _ (blk_in HR2.out)).trans HR2.out)
      have HB3 := Lib.hid (HB2.out.trans (hb.mono HB2.out.size))
      clear hb
      have hq := eq_agg u s h a u' s' h' a'
      unfold KeyV.val
      cases e : KeyV.same ⟨u, s, h, a⟩ ⟨u', s', h', a'⟩ with
      | true =>
        have HN := Lib.hid (next_5 ((KeyV.same_iff.1 e).trans HK5.out.symm))
        rw [e] at hq
        clear e
        go_wp2_with fail
        refine (HandKey_impl s h a _).mono ?_
        rintro e w4 ⟨rfl, hb⟩
        obtain ⟨⟨x0, x1, x2, x3⟩, hx⟩ : ∃ k', rightK ⟨3, s, h, a⟩ = k' := ⟨_, rfl⟩
        have HX := Lib.hid hx
        rw [hx]
        clear hx
        obtain ⟨⟨b0, b1, b2, b3⟩, q0, q1, q2, q3⟩ := blk4 ((hb.block _ (blk_in HR3.out)).trans HR3.out)
        have HB4 := Lib.hid (HB3.out.trans (hb.mono HB3.out.size))
        clear hb
        unfold KeyV.val
        go_wp2
        refine bodyPost_ret (v := .agg #[.int .i64 x0, .int .i64 x1, .int .i64 x2, .int .i64 x3]) ?_ rfl ⟨by rw [HN.out, HX.out]; rfl, below_set4 HB4.out (by omega) _ _ _ _⟩
        obtain ⟨s0, s1, s2, s3⟩ := set4_cell (w := w4) (g := w.heap.size + 1) (fun i hi => by match i, hi with | 0, _ => rw [b0]; rfl | 1, _ => rw [b1]; rfl | 2, _ => rw [b2]; rfl | 3, _ => rw [b3]; rfl) (.int .i64 x0) (.int .i64 x1) (.int .i64 x2) (.int .i64 x3)
        simp [results, Try.f15, go_sem, s0, s1, s2, s3]
      | false =>
        have HE5 : Hid ((⟨u, s, h, a⟩ : KeyV) ≠ rightK ⟨5, s, h, a⟩) := fun x => absurd (KeyV.same_iff.2 (x.trans HK5.out)) (by rw [e]; exact Bool.false_ne_true)
        rw [e] at hq
        clear e
        have HN := Lib.hid (next_0 HE3.out HE4.out HE5.out)
        obtain ⟨⟨b0, b1, b2, b3⟩, q0, q1, q2, q3⟩ := blk4 HR3.out
        go_wp2
        refine bodyPost_ret (v := .agg #[.int .i64 0, .int .i64 0, .int .i64 0, .int .i64 0]) ?_ rfl ⟨by rw [HN.out]; rfl, below_set4 HB3.out (by omega) _ _ _ _⟩
        obtain ⟨s0, s1, s2, s3⟩ := set4_cell (w := w3) (g := w.heap.size + 1) (fun i hi => by match i, hi with | 0, _ => rw [b0]; rfl | 1, _ => rw [b1]; rfl | 2, _ => rw [b2]; rfl | 3, _ => rw [b3]; rfl) (.int .i64 0) (.int .i64 0) (.int .i64 0) (.int .i64 0)
        simp [results, Try.f15, go_sem, s0, s1, s2, s3]

end Go.Proofs.Ytdppkdldjkpmpaa.Tx

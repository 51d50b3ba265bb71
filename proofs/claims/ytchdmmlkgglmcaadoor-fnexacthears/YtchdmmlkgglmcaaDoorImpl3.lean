/-
  What the functions of chapter 3 of the program answer. No conditions.
-/
import Derived.Deep.RegionWith
import Derived.Deep.RegionHeld3
import Derived.BigQuiet
import Derived.Deep.QuietTactic
import Derived.Test.YtchdmmlkgglmcaaDoorKey
import Derived.Test.YtchdmmlkgglmcaaDoorBlk
import Derived.Test.YtchdmmlkgglmcaaDoorEqV
import Derived.Test.YtchdmmlkgglmcaaDoorImpl2a
namespace Go.Proofs.YtchdmmlkgglmcaaDoor.Tx
open Go.RowKit

/-- What a number of a key is: none (0), a draw (1), wrong (2). -/
def partZ (n : Int) : Int := if n = 0 then 0 else if isDrawB n then 1 else 2

theorem partOf_any (n : Int) (w : World) : Calls Tryd.prog 88 #[.int .i64 n] w fun e w' => e = .returned (.int .i64 (partZ n)) ∧ w = w' := by
  by_cases h0 : n = 0
  · have HR : Hid (partZ n = 0) := by show _ = _; simp [partZ, h0]
    have hb := beq_int h0
    clear h0
    go_enter Tryd.func88, Tryd.ntmps88
    go_wp2
    go_ret
    exact ⟨by rw [HR.out]; rfl, rfl⟩
  · have hb := bne_int h0
    cases hd : isDrawB n with
    | false =>
      have HR : Hid (partZ n = 2) := by show _ = _; simp [partZ, h0, hd]
      have hc := IsDraw_same n
      rw [hd] at hc
      clear h0 hd
      go_enter Tryd.func88, Tryd.ntmps88
      go_wp2_with (go_at_call 61; refine (hc _).mono ?_; rintro e w' ⟨rfl, rfl⟩)
      go_ret
      exact ⟨by rw [HR.out]; rfl, rfl⟩
    | true =>
      have HR : Hid (partZ n = 1) := by show _ = _; simp [partZ, h0, hd]
      have hc := IsDraw_same n
      rw [hd] at hc
      clear h0 hd
      go_enter Tryd.func88, Tryd.ntmps88
      go_wp2_with (go_at_call 61; refine (hc _).mono ?_; rintro e w' ⟨rfl, rfl⟩)
      go_ret
      exact ⟨by rw [HR.out]; rfl, rfl⟩

/-- What a use wants Hello and Answer to be, and whether it is one. -/
def wantH (u : Int) : Int := if inB u 1 5 then 1 else 0
def wantA (u : Int) : Int := if inB u 3 5 then 1 else 0

theorem partsOfUse_any (u : Int) (w : World) : Calls Tryd.prog 87 #[.int .i64 u] w fun e w' => e = .returned (.tuple #[.agg #[.int .i64 (wantH u), .int .i64 (wantA u)], .bool (inB u 1 6)]) ∧ Below w.heap.size w w' := by
  have HB : ∀ x y : Value, Hid (Below w.heap.size w (w.alloc (.cells #[x, y] 131))) := fun _ _ => (Below.refl _ w).alloc (Nat.le_refl _) _
  by_cases h1 : u = 1
  · subst h1
    go_enter Tryd.func87, Tryd.ntmps87
    go_wp2
    exact bodyPost_ret (v := .tuple #[.agg #[.int .i64 1, .int .i64 0], .bool true]) (by simp [results, Tryd.f87, go_sem]) rfl ⟨rfl, (HB _ _).out⟩
  by_cases h2 : u = 2
  · subst h2
    go_enter Tryd.func87, Tryd.ntmps87
    go_wp2
    exact bodyPost_ret (v := .tuple #[.agg #[.int .i64 1, .int .i64 0], .bool true]) (by simp [results, Tryd.f87, go_sem]) rfl ⟨rfl, (HB _ _).out⟩
  by_cases h3 : u = 3
  · subst h3
    go_enter Tryd.func87, Tryd.ntmps87
    go_wp2
    exact bodyPost_ret (v := .tuple #[.agg #[.int .i64 1, .int .i64 1], .bool true]) (by simp [results, Tryd.f87, go_sem]) rfl ⟨rfl, (HB _ _).out⟩
  by_cases h4 : u = 4
  · subst h4
    go_enter Tryd.func87, Tryd.ntmps87
    go_wp2
    exact bodyPost_ret (v := .tuple #[.agg #[.int .i64 1, .int .i64 1], .bool true]) (by simp [results, Tryd.f87, go_sem]) rfl ⟨rfl, (HB _ _).out⟩
  by_cases h5 : u = 5
  · subst h5
    go_enter Tryd.func87, Tryd.ntmps87
    go_wp2
    exact bodyPost_ret (v := .tuple #[.agg #[.int .i64 1, .int .i64 1], .bool true]) (by simp [results, Tryd.f87, go_sem]) rfl ⟨rfl, (HB _ _).out⟩
  by_cases h6 : u = 6
  · subst h6
    go_enter Tryd.func87, Tryd.ntmps87
    go_wp2
    exact bodyPost_ret (v := .tuple #[.agg #[.int .i64 0, .int .i64 0], .bool true]) (by simp [results, Tryd.f87, go_sem]) rfl ⟨rfl, (HB _ _).out⟩
  have HR : Hid (wantH u = 0 ∧ wantA u = 0 ∧ inB u 1 6 = false) := by
    have e1 : inB u 1 6 = false := by simp only [inB, Bool.and_eq_false_iff, decide_eq_false_iff_not]; omega
    have e2 : inB u 1 5 = false := by simp only [inB, Bool.and_eq_false_iff, decide_eq_false_iff_not]; omega
    have e3 : inB u 3 5 = false := by simp only [inB, Bool.and_eq_false_iff, decide_eq_false_iff_not]; omega
    exact ⟨by simp [wantH, e2], by simp [wantA, e3], e1⟩
  have b1 := bne_int h1
  have b2 := bne_int h2
  have b3 := bne_int h3
  have b4 := bne_int h4
  have b5 := bne_int h5
  have b6 := bne_int h6
  clear h1 h2 h3 h4 h5 h6
  go_enter Tryd.func87, Tryd.ntmps87
  go_wp2
  exact bodyPost_ret (v := .tuple #[.agg #[.int .i64 0, .int .i64 0], .bool false]) (by simp [results, Tryd.f87, go_sem]) rfl ⟨by rw [HR.out.1, HR.out.2.1, HR.out.2.2], (HB _ _).out⟩

set_option maxHeartbeats 1000000 in
theorem parts_any (k : KeyV) (w : World) : Calls Tryd.prog 89 #[k.val] w fun e w' => e = .returned (.agg #[.int .i64 (partZ k.h), .int .i64 (partZ k.a)]) ∧ Below w.heap.size w w' := by
  obtain ⟨u, s, h, a⟩ := k
  unfold KeyV.val
  dsimp only
  have HB : ∀ x y : Value, Hid (Below w.heap.size w ((w.alloc (.cells #[.int .i64 u, .int .i64 s, .int .i64 h, .int .i64 a] 27)).alloc (.cells #[x, y] 131))) := fun _ _ => (((Below.refl _ w).alloc (Nat.le_refl _) _).alloc (by simp) _)
  go_enter Tryd.func89, Tryd.ntmps89
  go_wp2
  go_region_with (go_at_call 88; refine (partOf_any _ _).mono ?_; rintro e w' ⟨rfl, rfl⟩)
  all_goals
    go_wp2
    exact bodyPost_ret (v := .agg #[.int .i64 (partZ h), .int .i64 (partZ a)]) (by simp [results, Tryd.f89, go_sem]) rfl ⟨rfl, drewN_below (HB _ _).out 1⟩

theorem partZ_bad {s : Int} (h : inB s 0 100000 = false) : partZ s = 2 := by
  simp only [inB, Bool.and_eq_false_iff, decide_eq_false_iff_not] at h
  have h0 : s ≠ 0 := by omega
  have h1 : isDrawB s = false := by simp only [isDrawB, Bool.and_eq_false_iff, decide_eq_false_iff_not]; omega
  simp [partZ, h0, h1]
theorem partZ_good {s : Int} (h : inB s 0 100000 = true) : ∃ p, partZ s = p ∧ (p != 2) = true := by
  simp only [inB, Bool.and_eq_true, decide_eq_true_iff] at h
  by_cases h0 : s = 0
  · exact ⟨0, by simp [partZ, h0], rfl⟩
  · have h1 : isDrawB s = true := by simp only [isDrawB, Bool.and_eq_true, decide_eq_true_iff]; omega
    exact ⟨1, by simp [partZ, h0, h1], rfl⟩
theorem partZ_one {n : Int} : (partZ n = 1) ↔ isDrawB n = true := by
  by_cases h0 : n = 0
  · subst h0; simp [partZ, isDrawB]
  · cases h : isDrawB n <;> simp [partZ, h0, h]
theorem partZ_none {n : Int} : (partZ n = 0) ↔ n = 0 := by
  by_cases h0 : n = 0
  · subst h0; simp [partZ]
  · cases h : isDrawB n <;> simp [partZ, h0, h]
theorem keyOk_parts {u s h a : Int} (hu : inB u 1 6 = true) (hs : inB s 0 100000 = true) : keyOkB ⟨u, s, h, a⟩ = (partZ h == wantH u && partZ a == wantA u) := by
  have h15 : inB u 1 5 = !(u == 6) := by
    rw [Bool.eq_iff_iff]
    simp only [inB, Bool.and_eq_true, decide_eq_true_iff, Bool.not_eq_true', beq_eq_false_iff_ne] at hu ⊢
    omega
  unfold keyOkB wantH wantA
  dsimp only
  rw [hu, hs, h15]
  cases h6 : u == 6 with
  | true =>
    have h35 : inB u 3 5 = false := by rw [eq_of_beq h6]; rfl
    rw [h35, Bool.eq_iff_iff]
    simp [partZ_none]
  | false =>
    cases h35 : inB u 3 5
    · rw [Bool.eq_iff_iff]
      simp [partZ_none, partZ_one]
    · rw [Bool.eq_iff_iff]
      simp [partZ_one]

set_option maxHeartbeats 2000000 in
theorem KeyOk_impl (k : KeyV) (w : World) : Calls Tryd.prog 80 #[k.val] w fun e w' => e = .returned (.bool (keyOkB k)) ∧ Below w.heap.size w w' := by
  obtain ⟨u, s, h, a⟩ := k
  have HV : Hid (KeyV.val ⟨u, s, h, a⟩ = .agg #[.int .i64 u, .int .i64 s, .int .i64 h, .int .i64 a]) := rfl
  rw [HV.out]
  go_enter Tryd.func80, Tryd.ntmps80
  go_wp2_with fail
  refine (partsOfUse_any u _).mono ?_
  rintro e w1 ⟨rfl, hb⟩
  have hk0 := (hb.block w.heap.size (by simp)).trans (heap1 w _)
  have HB := Lib.hid (below_new1 hb)
  clear hb
  obtain ⟨wh, hwh⟩ : ∃ x, wantH u = x := ⟨_, rfl⟩
  obtain ⟨wa, hwa⟩ : ∃ x, wantA u = x := ⟨_, rfl⟩
  have HH := Lib.hid hwh
  have HA := Lib.hid hwa
  rw [hwh, hwa]
  clear hwh hwa
  obtain ⟨W, hW⟩ : ∃ W, w1.alloc (.cells #[.int .i64 wh, .int .i64 wa] 131) = W := ⟨_, rfl⟩
  have hk : W.heap[w.heap.size]? = _ := hW ▸ alloc_blk hk0
  have hp : W.heap[w1.heap.size]? = _ := hW ▸ heap1 w1 _
  have HW : Hid (Below w.heap.size w W) := hW ▸ HB.out.alloc HB.out.size _
  cases hu : inB u 1 6 with
  | false =>
    have HR : Hid (keyOkB ⟨u, s, h, a⟩ = false) := by show _ = _; simp [keyOkB, hu]
    clear hu hk0
    go_wp2
    clear hW hk hp
    go_quiet (fail)
    go_wp2
    go_ret
    exact ⟨by rw [HR.out]; rfl, drewN_below HW.out _⟩
  | true =>
    obtain ⟨⟨a0, a1, a2, a3⟩, p0, p1, p2, p3⟩ := blk4 hk
    obtain ⟨⟨b0, b1⟩, q0, q1⟩ := blk2 hp
    have hlt := Lib.hid (blk_in hp)
    have HP := Lib.hid hp
    cases hs : inB s 0 100000 with
    | false =>
      have HR : Hid (keyOkB ⟨u, s, h, a⟩ = false) := by show _ = _; simp [keyOkB, hu, hs]
      have hps := partOf_any s
      rw [partZ_bad hs] at hps
      clear hu hk0 hs hk hp
      go_wp2
      clear hW
      go_quiet ((go_at_call 88; refine Calls.quiet_of_same ((hps _).mono fun _ _ ⟨he, hw⟩ => ⟨he, hw.symm⟩)))
      go_wp2
      go_ret
      exact ⟨by rw [HR.out]; rfl, drewN_below HW.out _⟩
    | true =>
      obtain ⟨ps, hps0, hne⟩ := partZ_good hs
      have HR : Hid (keyOkB ⟨u, s, h, a⟩ = (partZ h == wh && partZ a == wa)) := by
        show _ = _
        rw [← HH.out, ← HA.out]
        exact keyOk_parts hu hs
      have hps := partOf_any s
      have heq := eq_two
      rw [hps0] at hps
      clear hu hk0 hs hk hp hps0
      go_wp2
      clear hW
      go_region_with (first | (go_at_call 88; refine (hps _).mono ?_; rintro e w' ⟨rfl, rfl⟩) | (go_at_call 89; refine (parts_any ⟨u, s, h, a⟩ _).mono ?_; rintro e w2 ⟨rfl, hb⟩; obtain ⟨⟨c0, c1⟩, _⟩ := blk2 ((hb.block w1.heap.size hlt.out).trans HP.out); have HB2 := Lib.hid hb; clear hb))
      all_goals
        go_wp2
        go_ret
        exact ⟨by rw [HR.out]; rfl, (drewN_below HW.out 1).trans (HB2.out.mono HW.out.size)⟩

set_option maxHeartbeats 1000000 in
theorem rightKey_any (k : KeyV) (w : World) : Calls Tryd.prog 59 #[k.val] w fun e w' => e = .returned (rightK k).val ∧ Below w.heap.size w w' := by
  obtain ⟨u, s, h, a⟩ := k
  have HV : Hid (KeyV.val ⟨u, s, h, a⟩ = .agg #[.int .i64 u, .int .i64 s, .int .i64 h, .int .i64 a]) := rfl
  rw [HV.out]
  go_enter Tryd.func59, Tryd.ntmps59
  go_wp2_with fail
  refine (KeyOk_impl ⟨u, s, h, a⟩ _).mono ?_
  rintro e w1 ⟨rfl, hb⟩
  obtain ⟨⟨a0, a1, a2, a3⟩, p0, p1, p2, p3⟩ := blk4 ((hb.block w.heap.size (by simp; omega)).trans (heap2a w _ _))
  obtain ⟨⟨b0, b1, b2, b3⟩, q0, q1, q2, q3⟩ := blk4 ((hb.block (w.heap.size + 1) (by simp)).trans (heap2b w _ _))
  have HB := Lib.hid hb
  clear hb
  cases hk : keyOkB ⟨u, s, h, a⟩ with
  | false =>
    go_wp2
    refine bodyPost_ret (v := (rightK ⟨u, s, h, a⟩).val) ?_ rfl ⟨rfl, below_set4 (below_new2 HB.out) (by omega) _ _ _ _⟩
    rw [rightK_no hk]
    obtain ⟨s0, s1, s2, s3⟩ := set4_cell (w := w1) (g := w.heap.size + 1) (fun i hi => by match i, hi with | 0, _ => rw [b0]; rfl | 1, _ => rw [b1]; rfl | 2, _ => rw [b2]; rfl | 3, _ => rw [b3]; rfl) (.int .i64 0) (.int .i64 0) (.int .i64 0) (.int .i64 0)
    simp [results, Tryd.f59, go_sem, s0, s1, s2, s3, KeyV.val, KeyV.zero]
  | true =>
    go_wp2
    refine bodyPost_ret (v := (rightK ⟨u, s, h, a⟩).val) ?_ rfl ⟨rfl, below_set4 (below_new2 HB.out) (by omega) _ _ _ _⟩
    rw [rightK_yes hk]
    obtain ⟨s0, s1, s2, s3⟩ := set4_cell (w := w1) (g := w.heap.size + 1) (fun i hi => by match i, hi with | 0, _ => rw [b0]; rfl | 1, _ => rw [b1]; rfl | 2, _ => rw [b2]; rfl | 3, _ => rw [b3]; rfl) (.int .i64 u) (.int .i64 s) (.int .i64 h) (.int .i64 a)
    simp [results, Tryd.f59, go_sem, s0, s1, s2, s3, KeyV.val]

set_option maxHeartbeats 1000000 in
theorem EarlyKey_impl (s h : Int) (w : World) : Calls Tryd.prog 29 #[.int .i64 s, .int .i64 h] w fun e w' => e = .returned (rightK ⟨1, s, h, 0⟩).val ∧ Below w.heap.size w w' := by
  go_enter Tryd.func29, Tryd.ntmps29
  go_wp2_with fail
  refine (rightKey_any ⟨1, s, h, 0⟩ _).mono ?_
  rintro e w1 ⟨rfl, hb⟩
  obtain ⟨⟨b0, b1, b2, b3⟩, q0, q1, q2, q3⟩ := blk4 ((hb.block w.heap.size (by simp)).trans (heap1 w _))
  have HB := Lib.hid hb
  clear hb
  obtain ⟨k', hk'⟩ : ∃ k', rightK ⟨1, s, h, 0⟩ = k' := ⟨_, rfl⟩
  have HK := Lib.hid hk'
  rw [hk']
  clear hk'
  obtain ⟨ku, ks, kh, ka⟩ := k'
  unfold KeyV.val
  go_wp2
  refine bodyPost_ret (v := .agg #[.int .i64 ku, .int .i64 ks, .int .i64 kh, .int .i64 ka]) ?_ rfl ⟨by rw [HK.out]; rfl, below_set4 (below_new1 HB.out) (Nat.le_refl _) _ _ _ _⟩
  obtain ⟨s0, s1, s2, s3⟩ := set4_cell (w := w1) (g := w.heap.size) (fun i hi => by match i, hi with | 0, _ => rw [b0]; rfl | 1, _ => rw [b1]; rfl | 2, _ => rw [b2]; rfl | 3, _ => rw [b3]; rfl) (.int .i64 ku) (.int .i64 ks) (.int .i64 kh) (.int .i64 ka)
  simp [results, Tryd.f29, go_sem, s0, s1, s2, s3]

set_option maxHeartbeats 1000000 in
theorem ForthKey_impl (s h a : Int) (w : World) : Calls Tryd.prog 28 #[.int .i64 s, .int .i64 h, .int .i64 a] w fun e w' => e = .returned (rightK ⟨4, s, h, a⟩).val ∧ Below w.heap.size w w' := by
  go_enter Tryd.func28, Tryd.ntmps28
  go_wp2_with fail
  refine (rightKey_any ⟨4, s, h, a⟩ _).mono ?_
  rintro e w1 ⟨rfl, hb⟩
  obtain ⟨⟨b0, b1, b2, b3⟩, q0, q1, q2, q3⟩ := blk4 ((hb.block w.heap.size (by simp)).trans (heap1 w _))
  have HB := Lib.hid hb
  clear hb
  obtain ⟨k', hk'⟩ : ∃ k', rightK ⟨4, s, h, a⟩ = k' := ⟨_, rfl⟩
  have HK := Lib.hid hk'
  rw [hk']
  clear hk'
  obtain ⟨ku, ks, kh, ka⟩ := k'
  unfold KeyV.val
  go_wp2
  refine bodyPost_ret (v := .agg #[.int .i64 ku, .int .i64 ks, .int .i64 kh, .int .i64 ka]) ?_ rfl ⟨by rw [HK.out]; rfl, below_set4 (below_new1 HB.out) (Nat.le_refl _) _ _ _ _⟩
  obtain ⟨s0, s1, s2, s3⟩ := set4_cell (w := w1) (g := w.heap.size) (fun i hi => by match i, hi with | 0, _ => rw [b0]; rfl | 1, _ => rw [b1]; rfl | 2, _ => rw [b2]; rfl | 3, _ => rw [b3]; rfl) (.int .i64 ku) (.int .i64 ks) (.int .i64 kh) (.int .i64 ka)
  simp [results, Tryd.f28, go_sem, s0, s1, s2, s3]


end Go.Proofs.YtchdmmlkgglmcaaDoor.Tx

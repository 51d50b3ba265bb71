/-
  What the functions of chapter 3 of the program answer. No conditions.
  What the functions of chapter 4 of the program answer. No conditions.
  What the small functions of chapter 5 of the program answer (a row with its key embedded: what is promoted). No conditions.
-/
import Derived.Deep.RegionWith
import Derived.Deep.RegionHeld3
import Derived.BigQuiet
import Derived.Deep.QuietTactic
import Derived.Test.YtioogmeghmeelaaGreatDoorKey
import Derived.Test.YtioogmeghmeelaaGreatDoorBlk
import Derived.Test.YtioogmeghmeelaaGreatDoorBox0
import Derived.Test.YtioogmeghmeelaaGreatDoorImpl2a
import Derived.Test.YtioogmeghmeelaaGreatDoorBox
import Derived.Test.YtioogmeghmeelaaGreatDoorRow
namespace Go.Proofs.YtioogmeghmeelaaGreatDoor.Tx
open Go.RowKit

/-- What a number of a key is: none (0), a draw (1), wrong (2). -/
def partZ (n : Int) : Int := if n = 0 then 0 else if isDrawB n then 1 else 2

theorem partOf_any (n : Int) (w : World) : Calls Tryz.prog 124 #[.int .i64 n] w fun e w' => e = .returned (.int .i64 (partZ n)) ∧ w = w' := by
  by_cases h0 : n = 0
  · have HR : Hid (partZ n = 0) := by show _ = _; simp [partZ, h0]
    have hb := beq_int h0
    clear h0
    go_enter Tryz.func124, Tryz.ntmps124
    go_wp2
    go_ret
    exact ⟨by rw [HR.out]; rfl, rfl⟩
  · have hb := bne_int h0
    cases hd : isDrawB n with
    | false =>
      have HR : Hid (partZ n = 2) := by show _ = _; simp [partZ, h0, hd]
      have hc := IsDraw_same n
      rw [hd] at hc
      clear h0 hd
      go_enter Tryz.func124, Tryz.ntmps124
      go_wp2_with (go_at_call 68; refine (hc _).mono ?_; rintro e w' ⟨rfl, rfl⟩)
      go_ret
      exact ⟨by rw [HR.out]; rfl, rfl⟩
    | true =>
      have HR : Hid (partZ n = 1) := by show _ = _; simp [partZ, h0, hd]
      have hc := IsDraw_same n
      rw [hd] at hc
      clear h0 hd
      go_enter Tryz.func124, Tryz.ntmps124
      go_wp2_with (go_at_call 68; refine (hc _).mono ?_; rintro e w' ⟨rfl, rfl⟩)
      go_ret
      exact ⟨by rw [HR.out]; rfl, rfl⟩

/-- What a use wants Hello and Answer to be, and whether it is one. -/
def wantH (u : Int) : Int := if inB u 1 5 then 1 else 0
def wantA (u : Int) : Int := if inB u 3 5 then 1 else 0

theorem partsOfUse_any (u : Int) (w : World) : Calls Tryz.prog 123 #[.int .i64 u] w fun e w' => e = .returned (.tuple #[.agg #[.int .i64 (wantH u), .int .i64 (wantA u)], .bool (inB u 1 6)]) ∧ Below w.heap.size w w' := by
  have HB : ∀ x y : Value, Hid (Below w.heap.size w (w.alloc (.cells #[x, y] 174))) := fun _ _ => (Below.refl _ w).alloc (Nat.le_refl _) _
  by_cases h1 : u = 1
  · subst h1
    go_enter Tryz.func123, Tryz.ntmps123
    go_wp2
    exact bodyPost_ret (v := .tuple #[.agg #[.int .i64 1, .int .i64 0], .bool true]) (by simp [results, Tryz.f123, go_sem]) rfl ⟨rfl, (HB _ _).out⟩
  by_cases h2 : u = 2
  · subst h2
    go_enter Tryz.func123, Tryz.ntmps123
    go_wp2
    exact bodyPost_ret (v := .tuple #[.agg #[.int .i64 1, .int .i64 0], .bool true]) (by simp [results, Tryz.f123, go_sem]) rfl ⟨rfl, (HB _ _).out⟩
  by_cases h3 : u = 3
  · subst h3
    go_enter Tryz.func123, Tryz.ntmps123
    go_wp2
    exact bodyPost_ret (v := .tuple #[.agg #[.int .i64 1, .int .i64 1], .bool true]) (by simp [results, Tryz.f123, go_sem]) rfl ⟨rfl, (HB _ _).out⟩
  by_cases h4 : u = 4
  · subst h4
    go_enter Tryz.func123, Tryz.ntmps123
    go_wp2
    exact bodyPost_ret (v := .tuple #[.agg #[.int .i64 1, .int .i64 1], .bool true]) (by simp [results, Tryz.f123, go_sem]) rfl ⟨rfl, (HB _ _).out⟩
  by_cases h5 : u = 5
  · subst h5
    go_enter Tryz.func123, Tryz.ntmps123
    go_wp2
    exact bodyPost_ret (v := .tuple #[.agg #[.int .i64 1, .int .i64 1], .bool true]) (by simp [results, Tryz.f123, go_sem]) rfl ⟨rfl, (HB _ _).out⟩
  by_cases h6 : u = 6
  · subst h6
    go_enter Tryz.func123, Tryz.ntmps123
    go_wp2
    exact bodyPost_ret (v := .tuple #[.agg #[.int .i64 0, .int .i64 0], .bool true]) (by simp [results, Tryz.f123, go_sem]) rfl ⟨rfl, (HB _ _).out⟩
  have HR : Hid (wantH u = 0 ∧ wantA u = 0 ∧ inB u 1 6 = false) := by
    have e1 : inB u 1 6 = false := by simp only [inB, Bool.and_eq_false_iff, decide_eq_false_iff_not]; omega
    have e2 : inB u 1 5 = false := by simp only [inB, Bool.and_eq_false_iff, decide_eq_false_iff_not]; omega
    have e3 : inB u 3 5 = false := by simp only [inB, Bool.and_eq_false_iff, decide_eq_false_iff_not]; omega
    exact ⟨by simp [wantH, e2], by simp [wantA, e3], e1⟩
  have b1 := bne_int h1
  have b2 := bne_int h2
  have b3 := bne_int h3
  have b4 := bne_int h4
  have b5 := bne_int h5
  have b6 := bne_int h6
  clear h1 h2 h3 h4 h5 h6
  go_enter Tryz.func123, Tryz.ntmps123
  go_wp2
  exact bodyPost_ret (v := .tuple #[.agg #[.int .i64 0, .int .i64 0], .bool false]) (by simp [results, Tryz.f123, go_sem]) rfl ⟨by rw [HR.out.1, HR.out.2.1, HR.out.2.2], (HB _ _).out⟩

set_option maxHeartbeats 1000000 in
theorem parts_any (k : KeyV) (w : World) : Calls Tryz.prog 125 #[k.val] w fun e w' => e = .returned (.agg #[.int .i64 (partZ k.h), .int .i64 (partZ k.a)]) ∧ Below w.heap.size w w' := by
  obtain ⟨u, s, h, a⟩ := k
  unfold KeyV.val
  dsimp only
  have HB : ∀ x y : Value, Hid (Below w.heap.size w ((w.alloc (.cells #[.int .i64 u, .int .i64 s, .int .i64 h, .int .i64 a] 41)).alloc (.cells #[x, y] 174))) := fun _ _ => (((Below.refl _ w).alloc (Nat.le_refl _) _).alloc (by simp) _)
  go_enter Tryz.func125, Tryz.ntmps125
  go_wp2
  go_region_with (go_at_call 124; refine (partOf_any _ _).mono ?_; rintro e w' ⟨rfl, rfl⟩)
  all_goals
    go_wp2
    exact bodyPost_ret (v := .agg #[.int .i64 (partZ h), .int .i64 (partZ a)]) (by simp [results, Tryz.f125, go_sem]) rfl ⟨rfl, drewN_below (HB _ _).out 1⟩

theorem partZ_bad {s : Int} (h : inB s 0 100000 = false) : partZ s = 2 := by
  simp only [inB, Bool.and_eq_false_iff, decide_eq_false_iff_not] at h
  have h0 : s ≠ 0 := by omega
  have h1 : isDrawB s = false := by simp only [isDrawB, Bool.and_eq_false_iff, decide_eq_false_iff_not]; omega
  simp [partZ, h0, h1]
theorem partZ_good {s : Int} (h : inB s 0 100000 = true) : ∃ p, partZ s = p ∧ (p != 2) = true := by
  simp only [inB, Bool.and_eq_true, decide_eq_true_iff] at h
  by_cases h0 : s = 0
  · exact ⟨0, by simp [partZ, h0], rfl⟩
  · have h1 : isDrawB s = true := by simp only [isDrawB, Bool.and_eq_true, decide_eq_true_iff]; omega
    exact ⟨1, by simp [partZ, h0, h1], rfl⟩
theorem partZ_one {n : Int} : (partZ n = 1) ↔ isDrawB n = true := by
  by_cases h0 : n = 0
  · subst h0; simp [partZ, isDrawB]
  · cases h : isDrawB n <;> simp [partZ, h0, h]
theorem partZ_none {n : Int} : (partZ n = 0) ↔ n = 0 := by
  by_cases h0 : n = 0
  · subst h0; simp [partZ]
  · cases h : isDrawB n <;> simp [partZ, h0, h]
theorem keyOk_parts {u s h a : Int} (hu : inB u 1 6 = true) (hs : inB s 0 100000 = true) : keyOkB ⟨u, s, h, a⟩ = (partZ h == wantH u && partZ a == wantA u) := by
  have h15 : inB u 1 5 = !(u == 6) := by
    rw [Bool.eq_iff_iff]
    simp only [inB, Bool.and_eq_true, decide_eq_true_iff, Bool.not_eq_true', beq_eq_false_iff_ne] at hu ⊢
    omega
  unfold keyOkB wantH wantA
  dsimp only
  rw [hu, hs, h15]
  cases h6 : u == 6 with
  | true =>
    have h35 : inB u 3 5 = false := by rw [eq_of_beq h6]; rfl
    rw [h35, Bool.eq_iff_iff]
    simp [partZ_none]
  | false =>
    cases h35 : inB u 3 5
    · rw [Bool.eq_iff_iff]
      simp [partZ_none, partZ_one]
    · rw [Bool.eq_iff_iff]
      simp [partZ_one]

set_option maxHeartbeats 2000000 in
theorem KeyOk_impl (k : KeyV) (w : World) : Calls Tryz.prog 110 #[k.val] w fun e w' => e = .returned (.bool (keyOkB k)) ∧ Below w.heap.size w w' := by
  obtain ⟨u, s, h, a⟩ := k
  have HV : Hid (KeyV.val ⟨u, s, h, a⟩ = .agg #[.int .i64 u, .int .i64 s, .int .i64 h, .int .i64 a]) := rfl
  rw [HV.out]
  go_enter Tryz.func110, Tryz.ntmps110
  go_wp2_with fail
  refine (partsOfUse_any u _).mono ?_
  rintro e w1 ⟨rfl, hb⟩
  have hk0 := (hb.block w.heap.size (by simp)).trans (heap1 w _)
  have HB := Lib.hid (below_new1 hb)
  clear hb
  obtain ⟨wh, hwh⟩ : ∃ x, wantH u = x := ⟨_, rfl⟩
  obtain ⟨wa, hwa⟩ : ∃ x, wantA u = x := ⟨_, rfl⟩
  have HH := Lib.hid hwh
  have HA := Lib.hid hwa
  rw [hwh, hwa]
  clear hwh hwa
  obtain ⟨W, hW⟩ : ∃ W, w1.alloc (.cells #[.int .i64 wh, .int .i64 wa] 174) = W := ⟨_, rfl⟩
  have hk : W.heap[w.heap.size]? = _ := hW ▸ alloc_blk hk0
  have hp : W.heap[w1.heap.size]? = _ := hW ▸ heap1 w1 _
  have HW : Hid (Below w.heap.size w W) := hW ▸ HB.out.alloc HB.out.size _
  cases hu : inB u 1 6 with
  | false =>
    have HR : Hid (keyOkB ⟨u, s, h, a⟩ = false) := by show _ = _; simp [keyOkB, hu]
    clear hu hk0
    go_wp2
    clear hW hk hp
    go_quiet (fail)
    go_wp2
    go_ret
    exact ⟨by rw [HR.out]; rfl, drewN_below HW.out _⟩
  | true =>
    obtain ⟨⟨a0, a1, a2, a3⟩, p0, p1, p2, p3⟩ := blk4 hk
    obtain ⟨⟨b0, b1⟩, q0, q1⟩ := blk2 hp
    have hlt := Lib.hid (blk_in hp)
    have HP := Lib.hid hp
    cases hs : inB s 0 100000 with
    | false =>
      have HR : Hid (keyOkB ⟨u, s, h, a⟩ = false) := by show _ = _; simp [keyOkB, hu, hs]
      have hps := partOf_any s
      rw [partZ_bad hs] at hps
      clear hu hk0 hs hk hp
      go_wp2
      clear hW
      go_quiet ((go_at_call 124; refine Calls.quiet_of_same ((hps _).mono fun _ _ ⟨he, hw⟩ => ⟨he, hw.symm⟩)))
      go_wp2
      go_ret
      exact ⟨by rw [HR.out]; rfl, drewN_below HW.out _⟩
    | true =>
      obtain ⟨ps, hps0, hne⟩ := partZ_good hs
      have HR : Hid (keyOkB ⟨u, s, h, a⟩ = (partZ h == wh && partZ a == wa)) := by
        show _ = _
        rw [← HH.out, ← HA.out]
        exact keyOk_parts hu hs
      have hps := partOf_any s
      have heq := eq_two
      rw [hps0] at hps
      clear hu hk0 hs hk hp hps0
      go_wp2
      clear hW
      go_region_with (first | (go_at_call 124; refine (hps _).mono ?_; rintro e w' ⟨rfl, rfl⟩) | (go_at_call 125; refine (parts_any ⟨u, s, h, a⟩ _).mono ?_; rintro e w2 ⟨rfl, hb⟩; obtain ⟨⟨c0, c1⟩, _⟩ := blk2 ((hb.block w1.heap.size hlt.out).trans HP.out); have HB2 := Lib.hid hb; clear hb))
      all_goals
        go_wp2
        go_ret
        exact ⟨by rw [HR.out]; rfl, (drewN_below HW.out 1).trans (HB2.out.mono HW.out.size)⟩

set_option maxHeartbeats 1000000 in
theorem rightKey_any (k : KeyV) (w : World) : Calls Tryz.prog 102 #[k.val] w fun e w' => e = .returned (rightK k).val ∧ Below w.heap.size w w' := by
  obtain ⟨u, s, h, a⟩ := k
  have HV : Hid (KeyV.val ⟨u, s, h, a⟩ = .agg #[.int .i64 u, .int .i64 s, .int .i64 h, .int .i64 a]) := rfl
  rw [HV.out]
  go_enter Tryz.func102, Tryz.ntmps102
  go_wp2_with fail
  refine (KeyOk_impl ⟨u, s, h, a⟩ _).mono ?_
  rintro e w1 ⟨rfl, hb⟩
  obtain ⟨⟨a0, a1, a2, a3⟩, p0, p1, p2, p3⟩ := blk4 ((hb.block w.heap.size (by simp; omega)).trans (heap2a w _ _))
  obtain ⟨⟨b0, b1, b2, b3⟩, q0, q1, q2, q3⟩ := blk4 ((hb.block (w.heap.size + 1) (by simp)).trans (heap2b w _ _))
  have HB := Lib.hid hb
  clear hb
  cases hk : keyOkB ⟨u, s, h, a⟩ with
  | false =>
    go_wp2
    refine bodyPost_ret (v := (rightK ⟨u, s, h, a⟩).val) ?_ rfl ⟨rfl, below_set4 (below_new2 HB.out) (by omega) _ _ _ _⟩
    rw [rightK_no hk]
    obtain ⟨s0, s1, s2, s3⟩ := set4_cell (w := w1) (g := w.heap.size + 1) (fun i hi => by match i, hi with | 0, _ => rw [b0]; rfl | 1, _ => rw [b1]; rfl | 2, _ => rw [b2]; rfl | 3, _ => rw [b3]; rfl) (.int .i64 0) (.int .i64 0) (.int .i64 0) (.int .i64 0)
    simp [results, Tryz.f102, go_sem, s0, s1, s2, s3, KeyV.val, KeyV.zero]
  | true =>
    go_wp2
    refine bodyPost_ret (v := (rightK ⟨u, s, h, a⟩).val) ?_ rfl ⟨rfl, below_set4 (below_new2 HB.out) (by omega) _ _ _ _⟩
    rw [rightK_yes hk]
    obtain ⟨s0, s1, s2, s3⟩ := set4_cell (w := w1) (g := w.heap.size + 1) (fun i hi => by match i, hi with | 0, _ => rw [b0]; rfl | 1, _ => rw [b1]; rfl | 2, _ => rw [b2]; rfl | 3, _ => rw [b3]; rfl) (.int .i64 u) (.int .i64 s) (.int .i64 h) (.int .i64 a)
    simp [results, Tryz.f102, go_sem, s0, s1, s2, s3, KeyV.val]

set_option maxHeartbeats 1000000 in
theorem EarlyKey_impl (s h : Int) (w : World) : Calls Tryz.prog 90 #[.int .i64 s, .int .i64 h] w fun e w' => e = .returned (rightK ⟨1, s, h, 0⟩).val ∧ Below w.heap.size w w' := by
  go_enter Tryz.func90, Tryz.ntmps90
  go_wp2_with fail
  refine (rightKey_any ⟨1, s, h, 0⟩ _).mono ?_
  rintro e w1 ⟨rfl, hb⟩
  obtain ⟨⟨b0, b1, b2, b3⟩, q0, q1, q2, q3⟩ := blk4 ((hb.block w.heap.size (by simp)).trans (heap1 w _))
  have HB := Lib.hid hb
  clear hb
  obtain ⟨k', hk'⟩ : ∃ k', rightK ⟨1, s, h, 0⟩ = k' := ⟨_, rfl⟩
  have HK := Lib.hid hk'
  rw [hk']
  clear hk'
  obtain ⟨ku, ks, kh, ka⟩ := k'
  unfold KeyV.val
  go_wp2
  refine bodyPost_ret (v := .agg #[.int .i64 ku, .int .i64 ks, .int .i64 kh, .int .i64 ka]) ?_ rfl ⟨by rw [HK.out]; rfl, below_set4 (below_new1 HB.out) (Nat.le_refl _) _ _ _ _⟩
  obtain ⟨s0, s1, s2, s3⟩ := set4_cell (w := w1) (g := w.heap.size) (fun i hi => by match i, hi with | 0, _ => rw [b0]; rfl | 1, _ => rw [b1]; rfl | 2, _ => rw [b2]; rfl | 3, _ => rw [b3]; rfl) (.int .i64 ku) (.int .i64 ks) (.int .i64 kh) (.int .i64 ka)
  simp [results, Tryz.f90, go_sem, s0, s1, s2, s3]

set_option maxHeartbeats 1000000 in
theorem ForthKey_impl (s h a : Int) (w : World) : Calls Tryz.prog 89 #[.int .i64 s, .int .i64 h, .int .i64 a] w fun e w' => e = .returned (rightK ⟨4, s, h, a⟩).val ∧ Below w.heap.size w w' := by
  go_enter Tryz.func89, Tryz.ntmps89
  go_wp2_with fail
  refine (rightKey_any ⟨4, s, h, a⟩ _).mono ?_
  rintro e w1 ⟨rfl, hb⟩
  obtain ⟨⟨b0, b1, b2, b3⟩, q0, q1, q2, q3⟩ := blk4 ((hb.block w.heap.size (by simp)).trans (heap1 w _))
  have HB := Lib.hid hb
  clear hb
  obtain ⟨k', hk'⟩ : ∃ k', rightK ⟨4, s, h, a⟩ = k' := ⟨_, rfl⟩
  have HK := Lib.hid hk'
  rw [hk']
  clear hk'
  obtain ⟨ku, ks, kh, ka⟩ := k'
  unfold KeyV.val
  go_wp2
  refine bodyPost_ret (v := .agg #[.int .i64 ku, .int .i64 ks, .int .i64 kh, .int .i64 ka]) ?_ rfl ⟨by rw [HK.out]; rfl, below_set4 (below_new1 HB.out) (Nat.le_refl _) _ _ _ _⟩
  obtain ⟨s0, s1, s2, s3⟩ := set4_cell (w := w1) (g := w.heap.size) (fun i hi => by match i, hi with | 0, _ => rw [b0]; rfl | 1, _ => rw [b1]; rfl | 2, _ => rw [b2]; rfl | 3, _ => rw [b3]; rfl) (.int .i64 ku) (.int .i64 ks) (.int .i64 kh) (.int .i64 ka)
  simp [results, Tryz.f89, go_sem, s0, s1, s2, s3]


end Go.Proofs.YtioogmeghmeelaaGreatDoor.Tx
namespace Go.Proofs.YtioogmeghmeelaaGreatDoor.Tx
open Go.RowKit

theorem isNo_any (n : Int) (w : World) : Calls Tryz.prog 109 #[.int .i64 n] w fun e w' => e = .returned (.bool (inB n 0 1000)) ∧ w = w' := by
  by_cases h1 : 0 ≤ n <;> by_cases h2 : n ≤ 1000
  all_goals
    go_enter Tryz.func109, Tryz.ntmps109
    go_wp2
    go_ret
    exact ⟨by simp [inB, h1, h2], rfl⟩

set_option maxHeartbeats 1000000 in
theorem fitFor_carry (b : BoxV) (w : World) : Calls Tryz.prog 159 #[b.val, .int .i64 1] w fun e w' => e = .returned (.bool (boxOkB b)) ∧ Below w.heap.size w w' := by
  obtain ⟨⟨u, s, h, a⟩, no, t, sp⟩ := b
  have HV : Hid (BoxV.val ⟨⟨u, s, h, a⟩, no, t, sp⟩ = .agg #[.int .i64 u, .int .i64 s, .int .i64 h, .int .i64 a, .int .i64 no, .string t, .bool sp]) := rfl
  rw [HV.out]
  go_enter Tryz.func159, Tryz.ntmps159
  go_wp2_with fail
  refine (KeyOk_impl ⟨u, s, h, a⟩ _).mono ?_
  rintro e w1 ⟨rfl, hb⟩
  obtain ⟨⟨a0, a1, a2, a3, a4, a5, a6⟩, _⟩ := blk7 ((hb.block w.heap.size (by simp)).trans (heap1 w _))
  have HB := Lib.hid (below_new1 hb)
  clear hb
  cases hk : keyOkB ⟨u, s, h, a⟩ with
  | false =>
    go_wp2
    go_ret
    exact ⟨by simp [boxOkB, hk], HB.out⟩
  | true =>
    go_wp2_with fail
    refine (isNo_any _ _).mono ?_
    rintro e w' ⟨rfl, rfl⟩
    cases hn : inB no 0 1000 with
    | false =>
      go_wp2
      go_ret
      exact ⟨by simp [boxOkB, hk, hn], HB.out⟩
    | true =>
      by_cases ht : t.size ≤ 40
      · have HR : Hid (boxOkB ⟨⟨u, s, h, a⟩, no, t, sp⟩ = true) := by show _ = _; simp [boxOkB, hk, hn, ht]
        have ht' : decide ((t.size : Int) ≤ 40) = true := decide_eq_true (by omega)
        go_wp2
        go_ret
        exact ⟨by rw [HR.out]; rfl, HB.out⟩
      · have HR : Hid (boxOkB ⟨⟨u, s, h, a⟩, no, t, sp⟩ = false) := by show _ = _; simp [boxOkB, hk, hn, ht]
        have ht' : decide ((t.size : Int) ≤ 40) = false := decide_eq_false (by omega)
        go_wp2
        go_ret
        exact ⟨by rw [HR.out]; rfl, HB.out⟩
set_option maxHeartbeats 1000000 in
theorem fitFor_open0 (b : BoxV) (w : World) : Calls Tryz.prog 159 #[(BoxV.mk b.k b.no b.t false).val, .int .i64 2] w fun e w' => e = .returned (.bool (boxOkB ⟨b.k, b.no, b.t, false⟩)) ∧ Below w.heap.size w w' := by
  obtain ⟨⟨u, s, h, a⟩, no, t, sp0⟩ := b
  dsimp only
  have HV : Hid (BoxV.val ⟨⟨u, s, h, a⟩, no, t, false⟩ = .agg #[.int .i64 u, .int .i64 s, .int .i64 h, .int .i64 a, .int .i64 no, .string t, .bool false]) := rfl
  rw [HV.out]
  go_enter Tryz.func159, Tryz.ntmps159
  go_wp2_with fail
  refine (KeyOk_impl ⟨u, s, h, a⟩ _).mono ?_
  rintro e w1 ⟨rfl, hb⟩
  obtain ⟨⟨a0, a1, a2, a3, a4, a5, a6⟩, _⟩ := blk7 ((hb.block w.heap.size (by simp)).trans (heap1 w _))
  have HB := Lib.hid (below_new1 hb)
  clear hb
  cases hk : keyOkB ⟨u, s, h, a⟩ with
  | false =>
    go_wp2
    go_ret
    exact ⟨by simp [boxOkB, hk], HB.out⟩
  | true =>
    go_wp2_with fail
    refine (isNo_any _ _).mono ?_
    rintro e w' ⟨rfl, rfl⟩
    cases hn : inB no 0 1000 with
    | false =>
      go_wp2
      go_ret
      exact ⟨by simp [boxOkB, hk, hn], HB.out⟩
    | true =>
      by_cases ht : t.size ≤ 40
      · have HR : Hid (boxOkB ⟨⟨u, s, h, a⟩, no, t, false⟩ = true) := by show _ = _; simp [boxOkB, hk, hn, ht]
        have ht' : decide ((t.size : Int) ≤ 40) = true := decide_eq_true (by omega)
        go_wp2
        go_ret
        exact ⟨by rw [HR.out]; rfl, HB.out⟩
      · have HR : Hid (boxOkB ⟨⟨u, s, h, a⟩, no, t, false⟩ = false) := by show _ = _; simp [boxOkB, hk, hn, ht]
        have ht' : decide ((t.size : Int) ≤ 40) = false := decide_eq_false (by omega)
        go_wp2
        go_ret
        exact ⟨by rw [HR.out]; rfl, HB.out⟩
theorem fitFor_spoilt (k : KeyV) (no : Int) (t : ByteArray) (w : World) : Calls Tryz.prog 159 #[(BoxV.mk k no t true).val, .int .i64 2] w fun e w' => e = .returned (.bool false) ∧ Below w.heap.size w w' := by
  obtain ⟨u, s, h, a⟩ := k
  have HV : Hid (BoxV.val ⟨⟨u, s, h, a⟩, no, t, true⟩ = .agg #[.int .i64 u, .int .i64 s, .int .i64 h, .int .i64 a, .int .i64 no, .string t, .bool true]) := rfl
  rw [HV.out]
  have HB : ∀ o : Obj, Hid (Below w.heap.size w (w.alloc o)) := fun _ => (Below.refl _ w).alloc (Nat.le_refl _) _
  go_enter Tryz.func159, Tryz.ntmps159
  go_wp2
  go_ret
  exact ⟨rfl, (HB _).out⟩

theorem fitFor_open (b : BoxV) (w : World) : Calls Tryz.prog 159 #[b.val, .int .i64 2] w fun e w' => e = .returned (.bool (!b.sp && boxOkB b)) ∧ Below w.heap.size w w' := by
  obtain ⟨k, no, t, sp⟩ := b
  cases sp
  · exact fitFor_open0 ⟨k, no, t, false⟩ w
  · exact fitFor_spoilt k no t w

set_option maxHeartbeats 2000000 in
theorem Opened_impl (b : BoxV) (k : KeyV) (no : Int) (w : World) : Calls Tryz.prog 168 #[b.val, k.val, .int .i64 no] w fun e w' => e = .returned (.tuple #[.string (openT b k no), .bool (openB b k no)]) ∧ Below w.heap.size w w' := by
  obtain ⟨⟨u, s, h, a⟩, n, t, sp⟩ := b
  obtain ⟨u', s', h', a'⟩ := k
  have HV : Hid (BoxV.val ⟨⟨u, s, h, a⟩, n, t, sp⟩ = .agg #[.int .i64 u, .int .i64 s, .int .i64 h, .int .i64 a, .int .i64 n, .string t, .bool sp]) := rfl
  have HV' : Hid (KeyV.val ⟨u', s', h', a'⟩ = .agg #[.int .i64 u', .int .i64 s', .int .i64 h', .int .i64 a']) := rfl
  rw [HV.out, HV'.out]
  go_enter Tryz.func168, Tryz.ntmps168
  go_wp2_with fail
  refine (fitFor_open ⟨⟨u, s, h, a⟩, n, t, sp⟩ _).mono ?_
  rintro e w1 ⟨rfl, hb⟩
  obtain ⟨⟨a0, a1, a2, a3, a4, a5, a6⟩, _⟩ := blk7 ((hb.block w.heap.size (by simp <;> omega)).trans (heap2a w _ _))
  obtain ⟨⟨b0, b1, b2, b3⟩, _⟩ := blk4 ((hb.block (w.heap.size + 1) (by simp)).trans (heap2b w _ _))
  have HB := Lib.hid (below_new2 hb)
  clear hb
  have hq := eq_agg u s h a u' s' h' a'
  cases hk : boxOkB ⟨⟨u, s, h, a⟩, n, t, sp⟩ with
  | false =>
    have HR : Hid (openB ⟨⟨u, s, h, a⟩, n, t, sp⟩ ⟨u', s', h', a'⟩ no = false) := by show _ = _; simp [openB, hk]
    have HT : Hid (openT ⟨⟨u, s, h, a⟩, n, t, sp⟩ ⟨u', s', h', a'⟩ no = ⟨#[]⟩) := by show _ = _; simp [openT, HR.out]
    go_wp2
    go_ret2
    exact ⟨by rw [HR.out, HT.out]; rfl, HB.out⟩
  | true =>
    cases sp with
    | true =>
      have HR : Hid (openB ⟨⟨u, s, h, a⟩, n, t, true⟩ ⟨u', s', h', a'⟩ no = false) := by show _ = _; simp [openB]
      have HT : Hid (openT ⟨⟨u, s, h, a⟩, n, t, true⟩ ⟨u', s', h', a'⟩ no = ⟨#[]⟩) := by show _ = _; simp [openT, HR.out]
      go_wp2
      go_ret2
      exact ⟨by rw [HR.out, HT.out]; rfl, HB.out⟩
    | false =>
      cases he : KeyV.same ⟨u, s, h, a⟩ ⟨u', s', h', a'⟩ with
      | false =>
        have HR : Hid (openB ⟨⟨u, s, h, a⟩, n, t, false⟩ ⟨u', s', h', a'⟩ no = false) := by show _ = _; simp [openB, he]
        have HT : Hid (openT ⟨⟨u, s, h, a⟩, n, t, false⟩ ⟨u', s', h', a'⟩ no = ⟨#[]⟩) := by show _ = _; simp [openT, HR.out]
        rw [he] at hq
        clear he
        go_wp2
        go_ret2
        exact ⟨by rw [HR.out, HT.out]; rfl, HB.out⟩
      | true =>
        rw [he] at hq
        by_cases hn : n = no
        · have HR : Hid (openB ⟨⟨u, s, h, a⟩, n, t, false⟩ ⟨u', s', h', a'⟩ no = true) := by show _ = _; unfold openB; dsimp only; rw [hk, he, beq_int hn]; rfl
          have HT : Hid (openT ⟨⟨u, s, h, a⟩, n, t, false⟩ ⟨u', s', h', a'⟩ no = t) := by show _ = _; simp [openT, HR.out]
          have hne : (n != no) = false := by simp [hn]
          clear he hn
          go_wp2
          go_ret2
          exact ⟨by rw [HR.out, HT.out]; rfl, HB.out⟩
        · have HR : Hid (openB ⟨⟨u, s, h, a⟩, n, t, false⟩ ⟨u', s', h', a'⟩ no = false) := by show _ = _; simp [openB, hn]
          have HT : Hid (openT ⟨⟨u, s, h, a⟩, n, t, false⟩ ⟨u', s', h', a'⟩ no = ⟨#[]⟩) := by show _ = _; simp [openT, HR.out]
          have hne : (n != no) = true := by simp [hn]
          clear he hn
          go_wp2
          go_ret2
          exact ⟨by rw [HR.out, HT.out]; rfl, HB.out⟩


end Go.Proofs.YtioogmeghmeelaaGreatDoor.Tx
namespace Go.Proofs.YtioogmeghmeelaaGreatDoor.Tx
open Go.RowKit

theorem isNoKey_any (k : KeyV) (w : World) : Calls Tryz.prog 107 #[k.val] w fun e w' => e = .returned (.bool (k.same .zero)) ∧ Below w.heap.size w w' := by
  obtain ⟨u, s, h, a⟩ := k
  have HV : Hid (KeyV.val ⟨u, s, h, a⟩ = .agg #[.int .i64 u, .int .i64 s, .int .i64 h, .int .i64 a]) := rfl
  rw [HV.out]
  have hq := eq_agg u s h a 0 0 0 0
  have HB0 : Hid (Below w.heap.size w (w.alloc (.cells #[.int .i64 u, .int .i64 s, .int .i64 h, .int .i64 a] 41))) := (Below.refl _ w).alloc (Nat.le_refl _) _
  obtain ⟨b, hb⟩ : ∃ b, KeyV.same ⟨u, s, h, a⟩ ⟨0, 0, 0, 0⟩ = b := ⟨_, rfl⟩
  rw [hb] at hq
  have HR : Hid (KeyV.same ⟨u, s, h, a⟩ .zero = b) := hb
  clear hb
  go_enter Tryz.func107, Tryz.ntmps107
  go_wp2
  go_ret
  exact ⟨by rw [HR.out]; rfl, HB0.out⟩

theorem isRightKey_any (k : KeyV) (w : World) : Calls Tryz.prog 108 #[k.val] w fun e w' => e = .returned (.bool (keyOkB k)) ∧ Below w.heap.size w w' := by
  obtain ⟨u, s, h, a⟩ := k
  have HV : Hid (KeyV.val ⟨u, s, h, a⟩ = .agg #[.int .i64 u, .int .i64 s, .int .i64 h, .int .i64 a]) := rfl
  rw [HV.out]
  go_enter Tryz.func108, Tryz.ntmps108
  go_wp2_with fail
  refine (KeyOk_impl ⟨u, s, h, a⟩ _).mono ?_
  rintro e w1 ⟨rfl, hb⟩
  have L1 := Lib.hid (below_new1 hb)
  clear hb
  go_wp2
  go_ret
  exact ⟨rfl, L1.out⟩

set_option maxHeartbeats 1000000 in
theorem rowRight_any (r : RowV) (w : World) : Calls Tryz.prog 101 #[r.val] w fun e w' => e = .returned (.bool (rowOkB r)) ∧ Below w.heap.size w w' := by
  obtain ⟨⟨u, s, h, a⟩, no⟩ := r
  have HV : Hid (RowV.val ⟨⟨u, s, h, a⟩, no⟩ = .agg #[.int .i64 u, .int .i64 s, .int .i64 h, .int .i64 a, .int .i64 no]) := rfl
  rw [HV.out]
  go_enter Tryz.func101, Tryz.ntmps101
  go_wp2_with fail
  refine (isNoKey_any ⟨u, s, h, a⟩ _).mono ?_
  rintro e w1 ⟨rfl, hb⟩
  have K1 := Lib.hid (blk_on hb (heap1 w _))
  have L1 := Lib.hid (below_new1 hb)
  clear hb
  cases hz : KeyV.same ⟨u, s, h, a⟩ .zero with
  | true =>
    have HR : Hid (rowOkB ⟨⟨u, s, h, a⟩, no⟩ = inB no 0 1000) := by show ((KeyV.same ⟨u, s, h, a⟩ .zero || _) && _) = _; rw [hz]; rfl
    obtain ⟨⟨a0, a1, a2, a3, a4⟩, _⟩ := blk5 K1.out
    go_wp2_with fail
    refine (isNo_any _ _).mono ?_
    rintro e w' ⟨rfl, rfl⟩
    obtain ⟨b, hb⟩ : ∃ b, inB no 0 1000 = b := ⟨_, rfl⟩
    rw [hb]
    have HRb := Lib.hid hb
    clear hb
    go_wp2
    go_ret
    exact ⟨by rw [HR.out, HRb.out]; rfl, L1.out⟩
  | false =>
    have HR : Hid (rowOkB ⟨⟨u, s, h, a⟩, no⟩ = (keyOkB ⟨u, s, h, a⟩ && inB no 0 1000)) := by show ((KeyV.same ⟨u, s, h, a⟩ .zero || _) && _) = _; rw [hz]; rfl
    obtain ⟨⟨a0, a1, a2, a3, a4⟩, _⟩ := blk5 K1.out
    go_wp2_with fail
    clear a0 a1 a2 a3 a4
    refine (isRightKey_any ⟨u, s, h, a⟩ _).mono ?_
    rintro e w2 ⟨rfl, b2⟩
    have K2 := Lib.hid (blk_on b2 K1.out)
    have L2 := Lib.hid (L1.out.trans (b2.mono L1.out.size))
    clear b2
    obtain ⟨⟨a0, a1, a2, a3, a4⟩, _⟩ := blk5 K2.out
    cases hk : keyOkB ⟨u, s, h, a⟩ with
    | false =>
      rw [hk] at HR
      go_wp2
      go_ret
      exact ⟨by rw [HR.out]; rfl, L2.out⟩
    | true =>
      rw [hk] at HR
      go_wp2_with fail
      refine (isNo_any _ _).mono ?_
      rintro e w' ⟨rfl, rfl⟩
      obtain ⟨b, hb⟩ : ∃ b, inB no 0 1000 = b := ⟨_, rfl⟩
      rw [hb]
      have HRb := Lib.hid hb
      clear hb
      go_wp2
      go_ret
      exact ⟨by rw [HR.out, HRb.out]; rfl, L2.out⟩

theorem keyed_any (r : RowV) (w : World) : Calls Tryz.prog 100 #[r.val] w fun e w' => e = .returned r.val ∧ Below w.heap.size w w' := by
  obtain ⟨⟨u, s, h, a⟩, no⟩ := r
  have HV : Hid (RowV.val ⟨⟨u, s, h, a⟩, no⟩ = .agg #[.int .i64 u, .int .i64 s, .int .i64 h, .int .i64 a, .int .i64 no]) := rfl
  rw [HV.out]
  go_enter Tryz.func100, Tryz.ntmps100
  go_wp2
  exact row_ret (cs := #[.int .i64 u, .int .i64 s, .int .i64 h, .int .i64 a, .int .i64 no]) rfl rfl (heap2b w _ _) Tryz.underlying148 rfl (by kernel_rfl) rfl ⟨rfl, ((Below.refl _ w).alloc (Nat.le_refl _) _).alloc (by simp) _⟩

theorem RowOk_impl (r : RowV) (w : World) : Calls Tryz.prog 88 #[r.val] w fun e w' => e = .returned (.bool (rowOkB r)) ∧ Below w.heap.size w w' := by
  obtain ⟨⟨u, s, h, a⟩, no⟩ := r
  have HV : Hid (RowV.val ⟨⟨u, s, h, a⟩, no⟩ = .agg #[.int .i64 u, .int .i64 s, .int .i64 h, .int .i64 a, .int .i64 no]) := rfl
  rw [HV.out]
  go_enter Tryz.func88, Tryz.ntmps88
  go_wp2_with fail
  refine (keyed_any ⟨⟨u, s, h, a⟩, no⟩ _).mono ?_
  rintro e w1 ⟨rfl, hb⟩
  have L1 := Lib.hid (below_new1 hb)
  clear hb
  rw [HV.out]
  go_wp2_with fail
  refine (rowRight_any ⟨⟨u, s, h, a⟩, no⟩ _).mono ?_
  rintro e w2 ⟨rfl, b2⟩
  have L2 := Lib.hid (L1.out.trans (b2.mono L1.out.size))
  clear b2
  go_wp2
  go_ret
  exact ⟨rfl, L2.out⟩

theorem goesOn_any (r : RowV) (w : World) : Calls Tryz.prog 166 #[r.val] w fun e w' => e = .returned (.bool (goesB r)) ∧ Below w.heap.size w w' := by
  obtain ⟨⟨u, s, h, a⟩, no⟩ := r
  have HV : Hid (RowV.val ⟨⟨u, s, h, a⟩, no⟩ = .agg #[.int .i64 u, .int .i64 s, .int .i64 h, .int .i64 a, .int .i64 no]) := rfl
  rw [HV.out]
  go_enter Tryz.func166, Tryz.ntmps166
  go_wp2_with fail
  refine (isNoKey_any ⟨u, s, h, a⟩ _).mono ?_
  rintro e w1 ⟨rfl, hb⟩
  have K1 := Lib.hid (blk_on hb (heap1 w _))
  have L1 := Lib.hid (below_new1 hb)
  clear hb
  obtain ⟨⟨a0, a1, a2, a3, a4⟩, _⟩ := blk5 K1.out
  cases hz : KeyV.same ⟨u, s, h, a⟩ .zero with
  | true =>
    have HR : Hid (goesB ⟨⟨u, s, h, a⟩, no⟩ = false) := by show (!KeyV.same ⟨u, s, h, a⟩ .zero && _) = _; rw [hz]; rfl
    go_wp2
    go_ret
    exact ⟨by rw [HR.out]; rfl, L1.out⟩
  | false =>
    have HR : Hid (goesB ⟨⟨u, s, h, a⟩, no⟩ = decide (no < 1000)) := by show (!KeyV.same ⟨u, s, h, a⟩ .zero && _) = _; rw [hz]; rfl
    go_wp2
    go_ret
    exact ⟨by rw [HR.out]; rfl, L1.out⟩

theorem rowNext_any (r : RowV) (h0 : 0 ≤ r.no) (h1 : r.no < 1000) (w : World) : Calls Tryz.prog 167 #[r.val] w fun e w' => e = .returned r.on.val ∧ Below w.heap.size w w' := by
  obtain ⟨⟨u, s, h, a⟩, no⟩ := r
  have HV : Hid (RowV.val ⟨⟨u, s, h, a⟩, no⟩ = .agg #[.int .i64 u, .int .i64 s, .int .i64 h, .int .i64 a, .int .i64 no]) := rfl
  rw [HV.out]
  dsimp only at h0 h1
  go_enter Tryz.func167, Tryz.ntmps167
  go_wp2
  exact row_ret (cs := #[.int .i64 u, .int .i64 s, .int .i64 h, .int .i64 a, .int .i64 (no + 1)]) rfl rfl (heap2b w _ _) Tryz.underlying54 rfl (by kernel_rfl) rfl ⟨rfl, ((Below.refl _ w).alloc (Nat.le_refl _) _).alloc (by simp) _⟩


set_option maxHeartbeats 1000000 in
theorem open_any (k : KeyV) (b : BoxV) (no : Int) (w : World) : Calls Tryz.prog 165 #[k.val, b.val, .int .i64 no] w fun e w' => e = .returned (.tuple #[.string (openT b k no), .bool (openB b k no)]) ∧ Below w.heap.size w w' := by
  obtain ⟨u, s, h, a⟩ := k
  obtain ⟨⟨xu, xs, xh, xa⟩, xn, xt, xp⟩ := b
  have HV : Hid (KeyV.val ⟨u, s, h, a⟩ = .agg #[.int .i64 u, .int .i64 s, .int .i64 h, .int .i64 a]) := rfl
  have HXV : Hid (BoxV.val ⟨⟨xu, xs, xh, xa⟩, xn, xt, xp⟩ = .agg #[.int .i64 xu, .int .i64 xs, .int .i64 xh, .int .i64 xa, .int .i64 xn, .string xt, .bool xp]) := rfl
  rw [HV.out, HXV.out]
  go_enter Tryz.func165, Tryz.ntmps165
  go_wp2_with fail
  refine (Opened_impl ⟨⟨xu, xs, xh, xa⟩, xn, xt, xp⟩ ⟨u, s, h, a⟩ no _).mono ?_
  rintro e w1 ⟨rfl, hb⟩
  have L1 := Lib.hid (below_new2 hb)
  clear hb
  go_wp2
  go_ret2
  exact ⟨rfl, L1.out⟩

end Go.Proofs.YtioogmeghmeelaaGreatDoor.Tx

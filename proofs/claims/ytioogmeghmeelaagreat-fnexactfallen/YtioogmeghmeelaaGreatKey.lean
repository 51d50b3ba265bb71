/-
  What the functions of chapter 3 of the model answer, and what toKey and eqKey of the laws do. No conditions.
-/
import Derived.WalkKit
import Derived.Lib.Hide
import Derived.Test.YtioogmeghmeelaaGreatLow
import Derived.Test.YtioogmeghmeelaaGreatKey0
import Derived.Test.YtioogmeghmeelaaGreatProg
namespace Go.Proofs.YtioogmeghmeelaaGreat.Tx
open Go.RowKit

set_option maxHeartbeats 1000000 in
theorem KeyOk_spec (k : KeyV) (w : World) : Calls Tryz.prog 73 #[k.val] w fun e w' => e = .returned (.bool (keyOkB k)) ∧ Below w.heap.size w w' := by
  obtain ⟨u, s, h, a⟩ := k
  have hB : Hid (Below w.heap.size w (w.alloc (.cells #[.int .i64 u, .int .i64 s, .int .i64 h, .int .i64 a] 63))) := (Below.refl _ w).alloc (Nat.le_refl _) _
  unfold KeyV.val
  go_enter Tryz.func73, Tryz.ntmps73
  go_wp2_with fail
  refine (l1In_b _ _ _ _).mono ?_
  rintro e w' ⟨rfl, rfl⟩
  cases h1 : inB u 1 6 with
  | false =>
    go_wp2
    go_ret
    exact ⟨by simp [keyOkB, h1], hB.out⟩
  | true =>
    go_wp2_with fail
    refine (l1In_b _ _ _ _).mono ?_
    rintro e w' ⟨rfl, rfl⟩
    cases h2 : inB s 0 100000 with
    | false =>
      go_wp2
      go_ret
      exact ⟨by simp [keyOkB, h1, h2], hB.out⟩
    | true =>
      by_cases h6 : u = 6
      · have h6b := beq_int h6
        by_cases hh : h = 0
        · have hhb := beq_int hh
          by_cases ha : a = 0
          · have hab := beq_int ha
            have HR : Hid (keyOkB ⟨u, s, h, a⟩ = true) := by show _ = _; simp [keyOkB, h1, h2, h6b, hhb, hab]
            clear h6 hh ha
            go_wp2
            go_ret
            exact ⟨by rw [HR.out]; rfl, hB.out⟩
          · have hab := bne_int ha
            have HR : Hid (keyOkB ⟨u, s, h, a⟩ = false) := by show _ = _; simp [keyOkB, h1, h2, h6b, hhb, hab]
            clear h6 hh ha
            go_wp2
            go_ret
            exact ⟨by rw [HR.out]; rfl, hB.out⟩
        · have hhb := bne_int hh
          have HR : Hid (keyOkB ⟨u, s, h, a⟩ = false) := by show _ = _; simp [keyOkB, h1, h2, h6b, hhb]
          clear h6 hh
          go_wp2
          go_ret
          exact ⟨by rw [HR.out]; rfl, hB.out⟩
      · have h6b := bne_int h6
        clear h6
        go_wp2_with fail
        refine (l1In_b _ _ _ _).mono ?_
        rintro e w' ⟨rfl, rfl⟩
        go_wp2_with fail
        refine (IsDraw_spec _ _).mono ?_
        rintro e w' ⟨rfl, rfl⟩
        cases h3 : isDrawB h with
        | false =>
          have HR : Hid (keyOkB ⟨u, s, h, a⟩ = false) := by show _ = _; simp [keyOkB, h1, h2, h6b, h3]
          go_wp2
          go_ret
          exact ⟨by rw [HR.out]; rfl, hB.out⟩
        | true =>
          cases h4 : inB u 3 5 with
          | false =>
            by_cases ha : a = 0
            · have hab := beq_int ha
              have HR : Hid (keyOkB ⟨u, s, h, a⟩ = true) := by show _ = _; simp [keyOkB, h1, h2, h6b, h3, h4, hab]
              clear ha
              go_wp2
              go_ret
              exact ⟨by rw [HR.out]; rfl, hB.out⟩
            · have hab := bne_int ha
              have HR : Hid (keyOkB ⟨u, s, h, a⟩ = false) := by show _ = _; simp [keyOkB, h1, h2, h6b, h3, h4, hab]
              clear ha
              go_wp2
              go_ret
              exact ⟨by rw [HR.out]; rfl, hB.out⟩
          | true =>
            have HR : Hid (keyOkB ⟨u, s, h, a⟩ = isDrawB a) := by show _ = _; simp [keyOkB, h1, h2, h6b, h3, h4]
            go_wp2_with fail
            refine (IsDraw_spec _ _).mono ?_
            rintro e w' ⟨rfl, rfl⟩
            cases h5 : isDrawB a
            all_goals
              rw [h5] at HR
              go_wp2
              go_ret
              exact ⟨by rw [HR.out]; rfl, hB.out⟩

set_option maxHeartbeats 1000000 in
theorem l3Key_any (k : KeyV) (w : World) : Calls Tryz.prog 74 #[.int .i64 k.u, .int .i64 k.s, .int .i64 k.h, .int .i64 k.a] w fun e w' => e = .returned (rightK k).val ∧ Below w.heap.size w w' := by
  obtain ⟨u, s, h, a⟩ := k
  dsimp only
  go_enter Tryz.func74, Tryz.ntmps74
  go_wp2_with fail
  refine (KeyOk_spec ⟨u, s, h, a⟩ _).mono ?_
  rintro e w1 ⟨rfl, hb⟩
  obtain ⟨hc, hf⟩ := bcell hb
  have HB := Lib.hid hb
  have hz : w.heap.size + 1 < w1.heap.size := by have := hb.size; simp at this; omega
  clear hb
  cases hk : keyOkB ⟨u, s, h, a⟩ with
  | false =>
    go_wp2
    refine bodyPost_ret (v := (rightK ⟨u, s, h, a⟩).val) ?_ rfl ⟨rfl, below_set4 (below_new2 HB.out) (Nat.le_refl _) _ _ _ _⟩
    rw [rightK_no hk]
    obtain ⟨s0, s1, s2, s3⟩ := set4_cell (w := w1) (g := w.heap.size) (fun i hi => by rw [hc _ _ (by simp; omega)]; match i, hi with | 0, _ => simp | 1, _ => simp | 2, _ => simp | 3, _ => simp) (.int .i64 0) (.int .i64 0) (.int .i64 0) (.int .i64 0)
    simp [results, Tryz.f74, go_sem, s0, s1, s2, s3, KeyV.val, KeyV.zero]
  | true =>
    go_wp2
    refine bodyPost_ret (v := (rightK ⟨u, s, h, a⟩).val) ?_ rfl ⟨rfl, below_set4 (below_new2 HB.out) (Nat.le_refl _) _ _ _ _⟩
    rw [rightK_yes hk]
    obtain ⟨s0, s1, s2, s3⟩ := set4_cell (w := w1) (g := w.heap.size) (fun i hi => by rw [hc _ _ (by simp; omega)]; match i, hi with | 0, _ => simp | 1, _ => simp | 2, _ => simp | 3, _ => simp) (.int .i64 u) (.int .i64 s) (.int .i64 h) (.int .i64 a)
    simp [results, Tryz.f74, go_sem, s0, s1, s2, s3, KeyV.val]

set_option maxHeartbeats 1000000 in
theorem EarlyKey_spec (s h : Int) (w : World) : Calls Tryz.prog 55 #[.int .i64 s, .int .i64 h] w fun e w' => e = .returned (rightK ⟨1, s, h, 0⟩).val ∧ Below w.heap.size w w' := by
  go_enter Tryz.func55, Tryz.ntmps55
  go_wp2_with fail
  refine (l3Key_any ⟨1, s, h, 0⟩ _).mono ?_
  rintro e w1 ⟨rfl, hb⟩
  obtain ⟨hc, hf⟩ := bcell hb
  have HB := Lib.hid hb
  have hz : w.heap.size < w1.heap.size := by have := hb.size; simp at this; omega
  clear hb
  obtain ⟨k', hk'⟩ : ∃ k', rightK ⟨1, s, h, 0⟩ = k' := ⟨_, rfl⟩
  have HK := Lib.hid hk'
  rw [hk']
  clear hk'
  obtain ⟨ku, ks, kh, ka⟩ := k'
  unfold KeyV.val
  go_wp2
  refine bodyPost_ret (v := .agg #[.int .i64 ku, .int .i64 ks, .int .i64 kh, .int .i64 ka]) ?_ rfl ⟨by rw [HK.out]; rfl, below_set4 (below_new1 HB.out) (Nat.le_refl _) _ _ _ _⟩
  obtain ⟨s0, s1, s2, s3⟩ := set4_cell (w := w1) (g := w.heap.size) (fun i hi => by rw [hc _ _ (by simp)]; match i, hi with | 0, _ => simp | 1, _ => simp | 2, _ => simp | 3, _ => simp) (.int .i64 ku) (.int .i64 ks) (.int .i64 kh) (.int .i64 ka)
  simp [results, Tryz.f55, go_sem, s0, s1, s2, s3]

set_option maxHeartbeats 1000000 in
theorem ForthKey_spec (s h a : Int) (w : World) : Calls Tryz.prog 54 #[.int .i64 s, .int .i64 h, .int .i64 a] w fun e w' => e = .returned (rightK ⟨4, s, h, a⟩).val ∧ Below w.heap.size w w' := by
  go_enter Tryz.func54, Tryz.ntmps54
  go_wp2_with fail
  refine (l3Key_any ⟨4, s, h, a⟩ _).mono ?_
  rintro e w1 ⟨rfl, hb⟩
  obtain ⟨hc, hf⟩ := bcell hb
  have HB := Lib.hid hb
  have hz : w.heap.size < w1.heap.size := by have := hb.size; simp at this; omega
  clear hb
  obtain ⟨k', hk'⟩ : ∃ k', rightK ⟨4, s, h, a⟩ = k' := ⟨_, rfl⟩
  have HK := Lib.hid hk'
  rw [hk']
  clear hk'
  obtain ⟨ku, ks, kh, ka⟩ := k'
  unfold KeyV.val
  go_wp2
  refine bodyPost_ret (v := .agg #[.int .i64 ku, .int .i64 ks, .int .i64 kh, .int .i64 ka]) ?_ rfl ⟨by rw [HK.out]; rfl, below_set4 (below_new1 HB.out) (Nat.le_refl _) _ _ _ _⟩
  obtain ⟨s0, s1, s2, s3⟩ := set4_cell (w := w1) (g := w.heap.size) (fun i hi => by rw [hc _ _ (by simp)]; match i, hi with | 0, _ => simp | 1, _ => simp | 2, _ => simp | 3, _ => simp) (.int .i64 ku) (.int .i64 ks) (.int .i64 kh) (.int .i64 ka)
  simp [results, Tryz.f54, go_sem, s0, s1, s2, s3]


set_option maxHeartbeats 1000000 in
theorem toKey_any (k : KeyV) (w : World) : Calls Tryz.prog 75 #[k.val] w fun e w' => e = .returned k.val ∧ Below w.heap.size w w' := by
  obtain ⟨u, s, h, a⟩ := k
  unfold KeyV.val
  go_enter Tryz.func75, Tryz.ntmps75
  go_wp2
  exact bodyPost_ret (v := .agg #[.int .i64 u, .int .i64 s, .int .i64 h, .int .i64 a]) (by simp [results, Tryz.f75, go_sem]) rfl ⟨rfl, (((Below.refl _ w).alloc (Nat.le_refl _) _).alloc (by simp) _).alloc (by simp; omega) _⟩

set_option maxHeartbeats 1000000 in
theorem eqKey_same (k : KeyV) (w : World) : Calls Tryz.prog 85 #[k.val, k.val] w fun e w' => e = .returned (.bool true) ∧ Below w.heap.size w w' := by
  obtain ⟨u, s, h, a⟩ := k
  unfold KeyV.val
  go_enter Tryz.func85, Tryz.ntmps85
  go_wp2
  go_ret
  exact ⟨rfl, ((Below.refl _ w).alloc (Nat.le_refl _) _).alloc (by simp) _⟩


end Go.Proofs.YtioogmeghmeelaaGreat.Tx

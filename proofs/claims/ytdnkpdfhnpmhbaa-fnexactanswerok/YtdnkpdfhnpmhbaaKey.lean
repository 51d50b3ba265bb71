/-
  What the functions of chapter 3 of the model answer, and what toKey and eqKey of the laws do. No conditions.
-/
import Derived.WalkKit
import Derived.Lib.Hide
import Derived.Test.YtdnkpdfhnpmhbaaLow
import Derived.Test.YtdnkpdfhnpmhbaaKey0
import Derived.Test.YtdnkpdfhnpmhbaaProg
namespace Go.Proofs.Ytdnkpdfhnpmhbaa.Tx
open Go.RowKit

set_option maxHeartbeats 1000000 in
theorem KeyOk_spec (k : KeyV) (w : World) : Calls Try.prog 14 #[k.val] w fun e w' => e = .returned (.bool (keyOkB k)) ∧ Below w.heap.size w w' := by
  obtain ⟨u, s, h, a⟩ := k
  have hB : Hid (Below w.heap.size w (w.alloc (.cells #[.int .i64 u, .int .i64 s, .int .i64 h, .int .i64 a] 30))) := (Below.refl _ w).alloc (Nat.le_refl _) _
  unfold KeyV.val
  go_enter Try.func14, Try.ntmps14
  go_wp2_with fail
  refine (l1In_b _ _ _ _).mono ?_
  rintro e w' ⟨rfl, rfl⟩
  cases h1 : inB u 1 6 with
  | false =>
    go_wp2
    go_ret
    exact ⟨by simp [keyOkB, h1], hB.out⟩
  | true =>
    go_wp2_with fail
    refine (l1In_b _ _ _ _).mono ?_
    rintro e w' ⟨rfl, rfl⟩
    cases h2 : inB s 0 100000 with
    | false =>
      go_wp2
      go_ret
      exact ⟨by simp [keyOkB, h1, h2], hB.out⟩
    | true =>
      by_cases h6 : u = 6
      · have h6b := beq_int h6
        by_cases hh : h = 0
        · have hhb := beq_int hh
          by_cases ha : a = 0
          · have hab := beq_int ha
            have HR : Hid (keyOkB ⟨u, s, h, a⟩ = true) := by show _ = _; simp [keyOkB, h1, h2, h6b, hhb, hab]
            clear h6 hh ha
            go_wp2
            go_ret
            exact ⟨by rw [HR.out]; rfl, hB.out⟩
          · have hab := bne_int ha
            have HR : Hid (keyOkB ⟨u, s, h, a⟩ = false) := by show _ = _; simp [keyOkB, h1, h2, h6b, hhb, hab]
            clear h6 hh ha
            go_wp2
            go_ret
            exact ⟨by rw [HR.out]; rfl, hB.out⟩
        · have hhb := bne_int hh
          have HR : Hid (keyOkB ⟨u, s, h, a⟩ = false) := by show _ = _; simp [keyOkB, h1, h2, h6b, hhb]
          clear h6 hh
          go_wp2
          go_ret
          exact ⟨by rw [HR.out]; rfl, hB.out⟩
      · have h6b := bne_int h6
        clear h6
        go_wp2_with fail
        refine (l1In_b _ _ _ _).mono ?_
        rintro e w' ⟨rfl, rfl⟩
        go_wp2_with fail
        refine (IsDraw_spec _ _).mono ?_
        rintro e w' ⟨rfl, rfl⟩
        cases h3 : isDrawB h with
        | false =>
          have HR : Hid (keyOkB ⟨u, s, h, a⟩ = false) := by show _ = _; simp [keyOkB, h1, h2, h6b, h3]
          go_wp2
          go_ret
          exact ⟨by rw [HR.out]; rfl, hB.out⟩
        | true =>
          cases h4 : inB u 3 5 with
          | false =>
            by_cases ha : a = 0
            · have hab := beq_int ha
              have HR : Hid (keyOkB ⟨u, s, h, a⟩ = true) := by show _ = _; simp [keyOkB, h1, h2, h6b, h3, h4, hab]
              clear ha
              go_wp2
              go_ret
              exact ⟨by rw [HR.out]; rfl, hB.out⟩
            · have hab := bne_int ha
              have HR : Hid (keyOkB ⟨u, s, h, a⟩ = false) := by show _ = _; simp [keyOkB, h1, h2, h6b, h3, h4, hab]
              clear ha
              go_wp2
              go_ret
              exact ⟨by rw [HR.out]; rfl, hB.out⟩
          | true =>
            have HR : Hid (keyOkB ⟨u, s, h, a⟩ = isDrawB a) := by show _ = _; simp [keyOkB, h1, h2, h6b, h3, h4]
            go_wp2_with fail
            refine (IsDraw_spec _ _).mono ?_
            rintro e w' ⟨rfl, rfl⟩
            cases h5 : isDrawB a
            all_goals
              rw [h5] at HR
              go_wp2
              go_ret
              exact ⟨by rw [HR.out]; rfl, hB.out⟩



set_option maxHeartbeats 1000000 in
theorem toKey_any (k : KeyV) (w : World) : Calls Try.prog 15 #[k.val] w fun e w' => e = .returned k.val ∧ Below w.heap.size w w' := by
  obtain ⟨u, s, h, a⟩ := k
  unfold KeyV.val
  go_enter Try.func15, Try.ntmps15
  go_wp2
  exact bodyPost_ret (v := .agg #[.int .i64 u, .int .i64 s, .int .i64 h, .int .i64 a]) (by simp [results, Try.f15, go_sem]) rfl ⟨rfl, (((Below.refl _ w).alloc (Nat.le_refl _) _).alloc (by simp) _).alloc (by simp; omega) _⟩



end Go.Proofs.Ytdnkpdfhnpmhbaa.Tx

/-
  What markWordS and heldWordS of the laws do: each cell of each word of a list is marked by its own number, and they are found so. Conditions: numbers from 0 to 2^62.
-/
import Derived.Test.YtchdmmlkgglmcaaDoorMarkBox
import Derived.Test.YtchdmmlkgglmcaaDoorRegionL
namespace Go.Proofs.YtchdmmlkgglmcaaDoor.Tx
open Go.RowKit

/-- A Word's kinds. -/
def wordKs : List FK := [.str, .bool]
theorem markWord_at (k j r : Nat) (hr : r < 2) : markF wordKs k (j * 2 + r) = markV (wordKs[r]?.getD .int) (k + (j * 2 + r)) := by
  have e : (j * 2 + r) % wordKs.length = r := by show (j * 2 + r) % 2 = r; omega
  rw [markF, e]

set_option maxRecDepth 100000 in
set_option maxHeartbeats 8000000 in
theorem markWordS_any (g n cap k : Nat) (hk : k + n * 2 ≤ 4611686018427387904) (w : World) (hT : There w g 0 (n * 2)) :
    Calls Tryd.prog 53 #[.slice (some ⟨g, 0, none⟩) n cap, .int .i64 (k : Int)] w fun e w' => e = .returned (.int .i64 ((k + n * 2 : Nat) : Int)) ∧ Filled w' g (markF wordKs k) (n * 2) ∧ w.grownBy w' (some g) := by
  have HT := Lib.hid hT
  clear hT
  go_enter Tryd.func53, Tryd.ntmps53
  go_wp2_with fail
  go_loopw [1, 5] (fun kv i wr => ∃ j : Nat, j ≤ n ∧ i = .int .i64 j ∧ kv = .int .i64 ((k + j * 2 : Nat) : Int) ∧ Hid (Filled wr g (markF wordKs k) (j * 2)) ∧ Hid (There wr g (j * 2) (n * 2)) ∧ Hid (w.grownBy wr (some g))) (fun _ i _ => n - (intOf i).toNat)
  case atStart => exact ⟨0, Nat.zero_le _, rfl, by simp, fun t ht => absurd ht (by omega), by rw [Nat.zero_mul]; exact HT.out, ⟨rfl, rfl, rfl, Nat.le_refl _, fun _ _ _ => rfl⟩⟩
  case round =>
    obtain ⟨j, hj, rfl, rfl, hM, hR, hG⟩ := hrel
    by_cases hlt : j < n
    · have hlt' : (j : Int) < (n : Int) := by omega
      have hj0 : (0 : Int) ≤ (j : Int) := by omega
      have hg := hR.out.lt (by omega)
      obtain ⟨K, hK⟩ : ∃ K, k + j * 2 = K := ⟨_, rfl⟩
      have HK := Lib.hid hK
      have hK1 : K + 2 ≤ 4611686018427387904 := by omega
      rw [hK]
      clear hK
      go_wp2_with fail
      obtain ⟨L, hL⟩ : ∃ L, L = K := ⟨_, rfl⟩
      have HL : Hid (L = K + 0) := hL
      rw [← hL]
      have hL1 : L + 2 ≤ 4611686018427387904 := by omega
      clear hL
      have HA1 : Hid (Filled wr g (markF wordKs k) (j * 2)) := hM.out
      have HA2 : Hid (There wr g (j * 2) (n * 2)) := hR.out
      have HA3 := Lib.hid hG.out
      clear hM hR hG
      have hgV := HA2.out.lt (by omega)
      refine (markText_any L (by omega) _).mono ?_
      rintro e w1 ⟨rfl, b1⟩
      have HB1 := Lib.hid (HA1.out.below hgV b1)
      have HB2 := Lib.hid (HA2.out.below hgV b1)
      have HB3 := Lib.hid (only_below HA3.out b1)
      clear b1 HA1 HA2 HA3
      obtain ⟨m, hm⟩ : ∃ m, markT L = m := ⟨_, rfl⟩
      have HM := Lib.hid hm
      rw [hm]
      clear hm
      obtain ⟨⟨v0, c0⟩, f0⟩ := HB2.out (j * 2) (by omega) (by omega)
      obtain ⟨⟨v1, c1⟩, f1⟩ := HB2.out (j * 2 + 1) (by omega) (by omega)
      have A := Filled.set (vs := [.string m, .bool (((L : Int) + 1) % 3 == 0)]) HB1.out HB2.out (by simp; omega) (fun i v hi => by
        match i, hi with
        | 0, hi => injection hi with hi; rw [← hi, markWord_at k j 0 (by omega), ← HM.out]; show Value.string _ = .string _; congr 2; have := HK.out; have := HL.out; omega
        | 1, hi => injection hi with hi; rw [← hi, show j * 2 + 1 = j * 2 + 1 by omega, markWord_at k j 1 (by omega)]; show Value.bool _ = .bool _; congr 3; have := HK.out; have := HL.out; omega
        | i + 2, hi => simp at hi)
      have HN1 : Hid (Filled (setAll w1 g (j * 2) [.string m, .bool (((L : Int) + 1) % 3 == 0)]) g (markF wordKs k) (j * 2 + 2)) := A.1
      have HN2 : Hid (There (setAll w1 g (j * 2) [.string m, .bool (((L : Int) + 1) % 3 == 0)]) g (j * 2 + 2) (n * 2)) := A.2
      have HN3 : Hid (w.grownBy (setAll w1 g (j * 2) [.string m, .bool (((L : Int) + 1) % 3 == 0)]) (some g)) := only_setRows _ _ HB3.out
      clear A
      go_wp2
      go_roundw
      case rel => exact ⟨j + 1, by omega, by go_num, by have := HK.out; have := HL.out; go_num, by rw [show (j + 1) * 2 = j * 2 + 2 by omega]; exact HN1.out, by rw [show (j + 1) * 2 = j * 2 + 2 by omega]; exact HN2.out, HN3.out⟩
      case measure => simp [intOf]; omega
    · obtain rfl : j = n := by omega
      have hlt' : ¬ (j : Int) < (j : Int) := by omega
      go_wp2
      go_ret
      exact ⟨rfl, hM.out, hG.out⟩

set_option maxRecDepth 100000 in
set_option maxHeartbeats 8000000 in
theorem heldWordS_any (g n cap k : Nat) (hk : k + n * 2 ≤ 4611686018427387904) (w : World) (hM : Filled w g (markF wordKs k) (n * 2)) :
    Calls Tryd.prog 54 #[.slice (some ⟨g, 0, none⟩) n cap, .int .i64 (k : Int)] w fun e w' => e = .returned (.int .i64 ((k + n * 2 : Nat) : Int)) ∧ Below w.heap.size w w' := by
  have HM := Lib.hid hM
  clear hM
  go_enter Tryd.func54, Tryd.ntmps54
  go_wp2_with fail
  go_loopw [1, 5] (fun kv i wr => ∃ j : Nat, j ≤ n ∧ i = .int .i64 j ∧ kv = .int .i64 ((k + j * 2 : Nat) : Int) ∧ Hid (Below w.heap.size w wr)) (fun _ i _ => n - (intOf i).toNat)
  case atStart => exact ⟨0, Nat.zero_le _, rfl, by simp, Below.refl _ _⟩
  case round =>
    obtain ⟨j, hj, rfl, rfl, hB⟩ := hrel
    by_cases hlt : j < n
    · have hlt' : (j : Int) < (n : Int) := by omega
      have hj0 : (0 : Int) ≤ (j : Int) := by omega
      have hg := World.block_lt_of_cell? w ⟨g, j * 2, none⟩ (HM.out (j * 2) (by omega))
      obtain ⟨K, hK⟩ : ∃ K, k + j * 2 = K := ⟨_, rfl⟩
      have HK := Lib.hid hK
      have hK1 : K + 2 ≤ 4611686018427387904 := by omega
      rw [hK]
      clear hK
      obtain ⟨L, hL⟩ : ∃ L, L = K + 0 := ⟨_, rfl⟩
      have HL := Lib.hid hL
      have hL1 : L + 2 ≤ 4611686018427387904 := by omega
      clear hL
      obtain ⟨m, hm⟩ : ∃ m, markT L = m := ⟨_, rfl⟩
      have HMM := Lib.hid hm
      clear hm
      have C0 : Hid (∀ q : Later w, q.w.cell? ⟨g, j * 2, none⟩ = some (.string m)) := fun q => by
        rw [q.bel.cell (p := ⟨g, j * 2, none⟩) hg, HM.out (j * 2) (by omega), show markF wordKs k (j * 2) = _ from markWord_at k j 0 (by omega), ← HMM.out]
        show some (Value.string _) = some (.string _)
        congr 3
        have := HK.out
        have := HL.out
        omega
      have C1 : Hid (∀ w', Below w.heap.size w w' → w'.cell? ⟨g, j * 2 + 1, none⟩ = some (.bool (((L : Int) + 1) % 3 == 0))) := fun w' hw => by
        rw [hw.cell (p := ⟨g, j * 2 + 1, none⟩) hg, HM.out (j * 2 + 1) (by omega), markWord_at k j 1 (by omega)]
        show some (Value.bool _) = some (.bool _)
        congr 4
        have := HK.out
        have := HL.out
        omega
      go_wp2
      have e5 : (K : Int) = (L : Int) := by have := HL.out; omega
      rw [e5]
      clear e5 
      have d0 := C0.out
      have cM : ∀ w' : World, Calls Tryd.prog 77 #[.int .i64 (L : Int)] w' fun e w'' => e = .returned (.string m) ∧ Below w'.heap.size w' w'' := fun w' => by
        have h1 := markText_any L (by omega) w'
        rw [HMM.out] at h1
        exact h1
      refine wp_region_later (W := w) hB.out (by kernel_rfl) (by kernel_rfl) ?_
      repeat (go_big_quiet_step ((go_at_call 77; exact calls_later (cM _))))
      refine wpQuiet_nil ?_
      rintro _ ⟨⟨w', hw'⟩, rfl⟩
      have Hw' := Lib.hid hw'
      have d1 := C1.out _ hw'
      clear hw' d0 cM
      go_wp2
      go_roundw
      case rel => exact ⟨j + 1, by omega, by go_num, by have := HK.out; have := HL.out; go_num, Hw'.out⟩
      case measure => simp [intOf]; omega
    · obtain rfl : j = n := by omega
      have hlt' : ¬ (j : Int) < (j : Int) := by omega
      go_wp2
      go_ret
      exact ⟨rfl, hB.out⟩

end Go.Proofs.YtchdmmlkgglmcaaDoor.Tx

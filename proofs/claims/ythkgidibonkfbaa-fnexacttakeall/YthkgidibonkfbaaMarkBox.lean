/-
  What markBoxS and heldBoxS of the laws do: each cell of each element of a list is marked by its own number, and they are found so. Conditions: numbers from 0 to 2^62.
-/
import Derived.Test.YthkgidibonkfbaaMark
import Derived.Test.YthkgidibonkfbaaFlat
namespace Go.Proofs.Ythkgidibonkfbaa.Tx
open Go.RowKit

/-- The mark of a cell of that kind. -/
def markV : FK → Nat → Value
  | .int, k => .int .i64 (k : Int)
  | .str, k => .string (markT k)
  | .bool, k => .bool ((k : Int) % 3 == 0)
/-- The marks of a row of such cells, from k on. -/
def markF (ks : List FK) (k t : Nat) : Value := markV (ks[t % ks.length]?.getD .int) (k + t)
/-- The first a cells of block g are those of f. -/
def Filled (w : World) (g : Nat) (f : Nat → Value) (a : Nat) : Prop := ∀ t, t < a → w.cell? ⟨g, t, none⟩ = some (f t)
theorem setAll_frozen {g : Nat} : ∀ (vs : List Value) (k : Nat) {w : World} (p : Addr), (setAll w g k vs).frozen? p = w.frozen? p
  | [], _, _, _ => rfl
  | v :: r, k, w, p => by rw [setAll, setAll_frozen r (k + 1) p, World.frozen?_setCell]
theorem Filled.set {w : World} {g : Nat} {f : Nat → Value} {a b : Nat} {vs : List Value} (h : Filled w g f a) (hT : There w g a b) (hl : a + vs.length ≤ b) (hv : ∀ i v, vs[i]? = some v → v = f (a + i)) :
    Filled (setAll w g a vs) g f (a + vs.length) ∧ There (setAll w g a vs) g (a + vs.length) b := by
  have hs : ∀ i, i < vs.length → (w.cell? ⟨g, a + i, none⟩).isSome = true := fun i hi => by
    obtain ⟨⟨v, e⟩, _⟩ := hT (a + i) (by omega) (by omega)
    rw [e]; rfl
  refine ⟨fun t ht => ?_, fun t h0 h1 => ?_⟩
  · by_cases hta : t < a
    · rw [setAll_far vs a (.inr hta)]; exact h t hta
    · obtain ⟨i, rfl⟩ : ∃ i, t = a + i := ⟨t - a, by omega⟩
      have hi : i < vs.length := by omega
      rw [setAll_cell vs a hs i vs[i] (List.getElem?_eq_getElem hi), hv i vs[i] (List.getElem?_eq_getElem hi)]
  · obtain ⟨⟨v, e⟩, e'⟩ := hT t (by omega) h1
    refine ⟨⟨v, ?_⟩, by rw [setAll_frozen]; exact e'⟩
    rw [← e]
    have : ∀ (vs : List Value) (k : Nat) (w : World), k + vs.length ≤ t → (setAll w g k vs).cell? ⟨g, t, none⟩ = w.cell? ⟨g, t, none⟩ := by
      intro vs
      induction vs with
      | nil => intro k w _; rfl
      | cons x r ih =>
        intro k w hk
        rw [List.length_cons] at hk
        rw [setAll, ih (k + 1) _ (by omega)]
        exact World.cell?_setCell_other _ _ _ _ (fun e' => by have := congrArg Addr.off e'; simp at this; omega)
    exact this vs a w h0
theorem Filled.below {w w' : World} {g : Nat} {f : Nat → Value} {a : Nat} (h : Filled w g f a) (hg : g < w.heap.size) (b : Below w.heap.size w w') : Filled w' g f a := fun t ht => (b.cell (p := ⟨g, t, none⟩) hg).trans (h t ht)
theorem There.below {w w' : World} {g a c : Nat} (h : There w g a c) (hg : g < w.heap.size) (b : Below w.heap.size w w') : There w' g a c := fun t h0 h1 => by
  obtain ⟨⟨v, e⟩, e'⟩ := h t h0 h1
  exact ⟨⟨v, (b.cell (p := ⟨g, t, none⟩) hg).trans e⟩, (b.frozen (p := ⟨g, t, none⟩) hg).trans e'⟩
theorem only_setRows {a : World} {g : Nat} : ∀ (vs : List Value) (k : Nat) {w : World}, a.grownBy w (some g) → a.grownBy (setAll w g k vs) (some g)
  | [], _, _, h => h
  | v :: r, k, _, h => only_setRows r (k + 1) (only_setRow h k v)

/-- A box's kinds. -/
def boxKs : List FK := [.int, .int, .int, .int, .int, .str, .bool]
theorem markBox_at (k j r : Nat) (hr : r < 7) : markF boxKs k (j * 7 + r) = markV (boxKs[r]?.getD .int) (k + (j * 7 + r)) := by
  have e : (j * 7 + r) % boxKs.length = r := by show (j * 7 + r) % 7 = r; omega
  rw [markF, e]

set_option maxHeartbeats 4000000 in
theorem markBoxS_any (g n cap k : Nat) (hk : k + n * 7 ≤ 4611686018427387904) (w : World) (hT : There w g 0 (n * 7)) :
    Calls Try.prog 37 #[.slice (some ⟨g, 0, none⟩) n cap, .int .i64 (k : Int)] w fun e w' => e = .returned (.int .i64 ((k + n * 7 : Nat) : Int)) ∧ Filled w' g (markF boxKs k) (n * 7) ∧ w.grownBy w' (some g) := by
  have HT := Lib.hid hT
  clear hT
  go_enter Try.func37, Try.ntmps37
  go_wp2_with fail
  go_loopw [1, 5] (fun kv i wr => ∃ j : Nat, j ≤ n ∧ i = .int .i64 j ∧ kv = .int .i64 ((k + j * 7 : Nat) : Int) ∧ Hid (Filled wr g (markF boxKs k) (j * 7)) ∧ Hid (There wr g (j * 7) (n * 7)) ∧ Hid (w.grownBy wr (some g))) (fun _ i _ => n - (intOf i).toNat)
  case atStart => exact ⟨0, Nat.zero_le _, rfl, by simp, fun t ht => absurd ht (by omega), by rw [Nat.zero_mul]; exact HT.out, ⟨rfl, rfl, rfl, Nat.le_refl _, fun _ _ _ => rfl⟩⟩
  case round =>
    obtain ⟨j, hj, rfl, rfl, hM, hR, hG⟩ := hrel
    by_cases hlt : j < n
    · have hlt' : (j : Int) < (n : Int) := by omega
      have hj0 : (0 : Int) ≤ (j : Int) := by omega
      have hg := hR.out.lt (by omega)
      obtain ⟨K, hK⟩ : ∃ K, k + j * 7 = K := ⟨_, rfl⟩
      have HK := Lib.hid hK
      have hK1 : K + 7 ≤ 4611686018427387904 := by omega
      rw [hK]
      clear hK
      obtain ⟨⟨v0, c0⟩, f0⟩ := hR.out (j * 7) (by omega) (by omega)
      obtain ⟨⟨v1, c1⟩, f1⟩ := hR.out (j * 7 + 1) (by omega) (by omega)
      obtain ⟨⟨v2, c2⟩, f2⟩ := hR.out (j * 7 + 2) (by omega) (by omega)
      obtain ⟨⟨v3, c3⟩, f3⟩ := hR.out (j * 7 + 3) (by omega) (by omega)
      obtain ⟨⟨v4, c4⟩, f4⟩ := hR.out (j * 7 + 4) (by omega) (by omega)
      have A := Filled.set (vs := [.int .i64 (K : Int), .int .i64 ((K : Int) + 1), .int .i64 ((K : Int) + 1 + 1), .int .i64 ((K : Int) + 1 + 1 + 1), .int .i64 ((K : Int) + 1 + 1 + 1 + 1)]) hM.out hR.out (by simp; omega) (fun i v hi => by
        match i, hi with
        | 0, hi => injection hi with hi; rw [← hi, markBox_at k j 0 (by omega)]; show Value.int .i64 _ = .int .i64 _; congr 1; have := HK.out; omega
        | 1, hi => injection hi with hi; rw [← hi, markBox_at k j 1 (by omega)]; show Value.int .i64 _ = .int .i64 _; congr 1; have := HK.out; omega
        | 2, hi => injection hi with hi; rw [← hi, markBox_at k j 2 (by omega)]; show Value.int .i64 _ = .int .i64 _; congr 1; have := HK.out; omega
        | 3, hi => injection hi with hi; rw [← hi, markBox_at k j 3 (by omega)]; show Value.int .i64 _ = .int .i64 _; congr 1; have := HK.out; omega
        | 4, hi => injection hi with hi; rw [← hi, markBox_at k j 4 (by omega)]; show Value.int .i64 _ = .int .i64 _; congr 1; have := HK.out; omega
        | i + 5, hi => simp at hi)
      have HA1 : Hid (Filled (setAll wr g (j * 7) [.int .i64 (K : Int), .int .i64 ((K : Int) + 1), .int .i64 ((K : Int) + 1 + 1), .int .i64 ((K : Int) + 1 + 1 + 1), .int .i64 ((K : Int) + 1 + 1 + 1 + 1)]) g (markF boxKs k) (j * 7 + 5)) := A.1
      have HA2 : Hid (There (setAll wr g (j * 7) [.int .i64 (K : Int), .int .i64 ((K : Int) + 1), .int .i64 ((K : Int) + 1 + 1), .int .i64 ((K : Int) + 1 + 1 + 1), .int .i64 ((K : Int) + 1 + 1 + 1 + 1)]) g (j * 7 + 5) (n * 7)) := A.2
      have HA3 : Hid (w.grownBy (setAll wr g (j * 7) [.int .i64 (K : Int), .int .i64 ((K : Int) + 1), .int .i64 ((K : Int) + 1 + 1), .int .i64 ((K : Int) + 1 + 1 + 1), .int .i64 ((K : Int) + 1 + 1 + 1 + 1)]) (some g)) := only_setRows _ _ hG.out
      clear A
      go_wp2_with fail
      obtain ⟨L, hL⟩ : ∃ L, L = K + 5 := ⟨_, rfl⟩
      have e5 : (K : Int) + 1 + 1 + 1 + 1 + 1 = (L : Int) := by omega
      rw [e5]
      have HL := Lib.hid hL
      have hL1 : L + 2 ≤ 4611686018427387904 := by omega
      clear e5 hL
      change Calls Try.prog _ _ (setAll wr g (j * 7) [.int .i64 (K : Int), .int .i64 ((K : Int) + 1), .int .i64 ((K : Int) + 1 + 1), .int .i64 ((K : Int) + 1 + 1 + 1), .int .i64 ((K : Int) + 1 + 1 + 1 + 1)]) _
      generalize setAll wr g (j * 7) [.int .i64 (K : Int), .int .i64 ((K : Int) + 1), .int .i64 ((K : Int) + 1 + 1), .int .i64 ((K : Int) + 1 + 1 + 1), .int .i64 ((K : Int) + 1 + 1 + 1 + 1)] = V at HA1 HA2 HA3 ⊢
      clear c0 c1 c2 c3 c4 f0 f1 f2 f3 f4 hM hR hG
      have hgV := HA2.out.lt (by omega)
      refine (markText_any L (by omega) _).mono ?_
      rintro e w1 ⟨rfl, b1⟩
      have HB1 := Lib.hid (HA1.out.below hgV b1)
      have HB2 := Lib.hid (HA2.out.below hgV b1)
      have HB3 := Lib.hid (only_below HA3.out b1)
      clear b1 HA1 HA2 HA3
      obtain ⟨m, hm⟩ : ∃ m, markT L = m := ⟨_, rfl⟩
      have HM := Lib.hid hm
      rw [hm]
      clear hm
      obtain ⟨⟨v5, c5⟩, f5⟩ := HB2.out (j * 7 + 5) (by omega) (by omega)
      obtain ⟨⟨v6, c6⟩, f6⟩ := HB2.out (j * 7 + 6) (by omega) (by omega)
      have A := Filled.set (vs := [.string m, .bool (((L : Int) + 1) % 3 == 0)]) HB1.out HB2.out (by simp; omega) (fun i v hi => by
        match i, hi with
        | 0, hi => injection hi with hi; rw [← hi, markBox_at k j 5 (by omega), ← HM.out]; show Value.string _ = .string _; congr 2; have := HK.out; have := HL.out; omega
        | 1, hi => injection hi with hi; rw [← hi, show j * 7 + 5 + 1 = j * 7 + 6 by omega, markBox_at k j 6 (by omega)]; show Value.bool _ = .bool _; congr 3; have := HK.out; have := HL.out; omega
        | i + 2, hi => simp at hi)
      have HN1 : Hid (Filled (setAll w1 g (j * 7 + 5) [.string m, .bool (((L : Int) + 1) % 3 == 0)]) g (markF boxKs k) (j * 7 + 5 + 2)) := A.1
      have HN2 : Hid (There (setAll w1 g (j * 7 + 5) [.string m, .bool (((L : Int) + 1) % 3 == 0)]) g (j * 7 + 5 + 2) (n * 7)) := A.2
      have HN3 : Hid (w.grownBy (setAll w1 g (j * 7 + 5) [.string m, .bool (((L : Int) + 1) % 3 == 0)]) (some g)) := only_setRows _ _ HB3.out
      clear A
      go_wp2
      go_roundw
      case rel => exact ⟨j + 1, by omega, by go_num, by have := HK.out; have := HL.out; go_num, by rw [show (j + 1) * 7 = j * 7 + 5 + 2 by omega]; exact HN1.out, by rw [show (j + 1) * 7 = j * 7 + 5 + 2 by omega]; exact HN2.out, HN3.out⟩
      case measure => simp [intOf]; omega
    · obtain rfl : j = n := by omega
      have hlt' : ¬ (j : Int) < (j : Int) := by omega
      go_wp2
      go_ret
      exact ⟨rfl, hM.out, hG.out⟩

set_option maxRecDepth 100000 in
set_option maxHeartbeats 4000000 in
theorem heldBoxS_any (g n cap k : Nat) (hk : k + n * 7 ≤ 4611686018427387904) (w : World) (hM : Filled w g (markF boxKs k) (n * 7)) :
    Calls Try.prog 38 #[.slice (some ⟨g, 0, none⟩) n cap, .int .i64 (k : Int)] w fun e w' => e = .returned (.int .i64 ((k + n * 7 : Nat) : Int)) ∧ Below w.heap.size w w' := by
  have HM := Lib.hid hM
  clear hM
  go_enter Try.func38, Try.ntmps38
  go_wp2_with fail
  go_loopw [1, 5] (fun kv i wr => ∃ j : Nat, j ≤ n ∧ i = .int .i64 j ∧ kv = .int .i64 ((k + j * 7 : Nat) : Int) ∧ Hid (Below w.heap.size w wr)) (fun _ i _ => n - (intOf i).toNat)
  case atStart => exact ⟨0, Nat.zero_le _, rfl, by simp, Below.refl _ _⟩
  case round =>
    obtain ⟨j, hj, rfl, rfl, hB⟩ := hrel
    by_cases hlt : j < n
    · have hlt' : (j : Int) < (n : Int) := by omega
      have hj0 : (0 : Int) ≤ (j : Int) := by omega
      have hg := World.block_lt_of_cell? w ⟨g, j * 7, none⟩ (HM.out (j * 7) (by omega))
      obtain ⟨K, hK⟩ : ∃ K, k + j * 7 = K := ⟨_, rfl⟩
      have HK := Lib.hid hK
      have hK1 : K + 7 ≤ 4611686018427387904 := by omega
      rw [hK]
      clear hK
      obtain ⟨L, hL⟩ : ∃ L, L = K + 5 := ⟨_, rfl⟩
      have HL := Lib.hid hL
      have hL1 : L + 2 ≤ 4611686018427387904 := by omega
      clear hL
      obtain ⟨m, hm⟩ : ∃ m, markT L = m := ⟨_, rfl⟩
      have HMM := Lib.hid hm
      clear hm
      have C0 : Hid (∀ w', Below w.heap.size w w' → w'.cell? ⟨g, j * 7, none⟩ = some (.int .i64 (K : Int))) := fun w' hw => by
        rw [hw.cell (p := ⟨g, j * 7, none⟩) hg, HM.out (j * 7) (by omega), show markF boxKs k (j * 7) = _ from markBox_at k j 0 (by omega)]
        show some (Value.int .i64 _) = some (.int .i64 _)
        congr 2
        have := HK.out
        omega
      have C1 : Hid (∀ w', Below w.heap.size w w' → w'.cell? ⟨g, j * 7 + 1, none⟩ = some (.int .i64 ((K : Int) + 1))) := fun w' hw => by
        rw [hw.cell (p := ⟨g, j * 7 + 1, none⟩) hg, HM.out (j * 7 + 1) (by omega), markBox_at k j 1 (by omega)]
        show some (Value.int .i64 _) = some (.int .i64 _)
        congr 2
        have := HK.out
        omega
      have C2 : Hid (∀ w', Below w.heap.size w w' → w'.cell? ⟨g, j * 7 + 2, none⟩ = some (.int .i64 ((K : Int) + 1 + 1))) := fun w' hw => by
        rw [hw.cell (p := ⟨g, j * 7 + 2, none⟩) hg, HM.out (j * 7 + 2) (by omega), markBox_at k j 2 (by omega)]
        show some (Value.int .i64 _) = some (.int .i64 _)
        congr 2
        have := HK.out
        omega
      have C3 : Hid (∀ w', Below w.heap.size w w' → w'.cell? ⟨g, j * 7 + 3, none⟩ = some (.int .i64 ((K : Int) + 1 + 1 + 1))) := fun w' hw => by
        rw [hw.cell (p := ⟨g, j * 7 + 3, none⟩) hg, HM.out (j * 7 + 3) (by omega), markBox_at k j 3 (by omega)]
        show some (Value.int .i64 _) = some (.int .i64 _)
        congr 2
        have := HK.out
        omega
      have C4 : Hid (∀ w', Below w.heap.size w w' → w'.cell? ⟨g, j * 7 + 4, none⟩ = some (.int .i64 ((K : Int) + 1 + 1 + 1 + 1))) := fun w' hw => by
        rw [hw.cell (p := ⟨g, j * 7 + 4, none⟩) hg, HM.out (j * 7 + 4) (by omega), markBox_at k j 4 (by omega)]
        show some (Value.int .i64 _) = some (.int .i64 _)
        congr 2
        have := HK.out
        omega
      have C5 : Hid (∀ q : Later w, q.w.cell? ⟨g, j * 7 + 5, none⟩ = some (.string m)) := fun q => by
        rw [q.bel.cell (p := ⟨g, j * 7 + 5, none⟩) hg, HM.out (j * 7 + 5) (by omega), markBox_at k j 5 (by omega), ← HMM.out]
        show some (Value.string _) = some (.string _)
        congr 3
        have := HK.out
        have := HL.out
        omega
      have C6 : Hid (∀ w', Below w.heap.size w w' → w'.cell? ⟨g, j * 7 + 6, none⟩ = some (.bool (((L : Int) + 1) % 3 == 0))) := fun w' hw => by
        rw [hw.cell (p := ⟨g, j * 7 + 6, none⟩) hg, HM.out (j * 7 + 6) (by omega), markBox_at k j 6 (by omega)]
        show some (Value.bool _) = some (.bool _)
        congr 4
        have := HK.out
        have := HL.out
        omega
      have d0 := C0.out _ hB.out
      have d1 := C1.out _ hB.out
      have d2 := C2.out _ hB.out
      have d3 := C3.out _ hB.out
      have d4 := C4.out _ hB.out
      go_wp2
      have e5 : (K : Int) + 1 + 1 + 1 + 1 + 1 = (L : Int) := by have := HL.out; omega
      rw [e5]
      clear e5 d0 d1 d2 d3 d4
      have d5 := C5.out
      have cM : ∀ w' : World, Calls Try.prog 64 #[.int .i64 (L : Int)] w' fun e w'' => e = .returned (.string m) ∧ Below w'.heap.size w' w'' := fun w' => by
        have h1 := markText_any L (by omega) w'
        rw [HMM.out] at h1
        exact h1
      refine wp_region_later (W := w) hB.out (by kernel_rfl) (by kernel_rfl) ?_
      repeat (go_big_quiet_step ((go_at_call 64; exact calls_later (cM _))))
      refine wpQuiet_nil ?_
      rintro _ ⟨⟨w', hw'⟩, rfl⟩
      have Hw' := Lib.hid hw'
      have d6 := C6.out _ hw'
      clear hw' d5 cM
      go_wp2
      go_roundw
      case rel => exact ⟨j + 1, by omega, by go_num, by have := HK.out; have := HL.out; go_num, Hw'.out⟩
      case measure => simp [intOf]; omega
    · obtain rfl : j = n := by omega
      have hlt' : ¬ (j : Int) < (j : Int) := by omega
      go_wp2
      go_ret
      exact ⟨rfl, hB.out⟩

end Go.Proofs.Ythkgidibonkfbaa.Tx

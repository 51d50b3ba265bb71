/-
  What toWord, szWord and eqWord of the laws do. Condition: a word's text has at most 2^63 - 1 bytes.
  What the laws' helpers over lists of Words do: they are copied, counted, held against each other, marked. Conditions: at most 1048576 of them; each text at most 2^63 - 1 bytes.
  What markWordS and heldWordS of the laws do: each cell of each word of a list is marked by its own number, and they are found so. Conditions: numbers from 0 to 2^62.
  What toSeat, szSeat, eqSeat, markSeat and heldSeat of the laws do, and what EarlyIn of the model answers. Conditions: at most 1048576 words, each text at most 2^63 - 1 bytes.
-/
import Derived.Deep.DeepCutAuto
import Derived.Laws.CopyOwn
import Derived.Test.YtakhjdodljhfmaaBox
import Derived.Test.YtakhjdodljhfmaaSeat0
import Derived.Laws.MakeOwn
import Derived.Test.YtakhjdodljhfmaaEltsTo
import Derived.Test.YtakhjdodljhfmaaRegionL
import Derived.Test.YtakhjdodljhfmaaMarkBox
import Derived.Test.YtakhjdodljhfmaaSeat
import Derived.Test.YtakhjdodljhfmaaCopyE
import Derived.Test.YtakhjdodljhfmaaOffs
namespace Go.Proofs.Ytakhjdodljhfmaa.Tx
open Go.RowKit

theorem eqWord_same (q : WordV) (w : World) : Calls Try.prog 68 #[q.val, q.val] w fun e w' => e = .returned (.bool true) ∧ Below w.heap.size w w' := by
  obtain ⟨xt, xp⟩ := q
  have HV : Hid (WordV.val ⟨xt, xp⟩ = .agg #[.string xt, .bool xp]) := rfl
  rw [HV.out]
  have HB : Hid (Below w.heap.size w ((w.alloc (.cells #[.string xt, .bool xp] 94)).alloc (.cells #[.string xt, .bool xp] 94))) := ((Below.refl _ w).alloc (Nat.le_refl _) _).alloc (by simp) _
  have hpp : (xp != xp) = false := by simp
  go_enter Try.func68, Try.ntmps68
  go_wp2
  go_ret
  exact ⟨rfl, HB.out⟩

end Go.Proofs.Ytakhjdodljhfmaa.Tx
namespace Go.Proofs.Ytakhjdodljhfmaa.Tx
open Go.RowKit

set_option maxRecDepth 100000 in
set_option maxHeartbeats 4000000 in
theorem eqWordS_same (A B : Option Addr) (n ca cb : Nat) (l : List WordV) (w : World) (hA : EltsO w w.heap.size A n l) (hB : EltsO w w.heap.size B n l) (hn : n ≤ 1048576) :
    Calls Try.prog 61 #[.slice A n ca, .slice B n cb] w fun e w' => e = .returned (.bool true) ∧ Below w.heap.size w w' := by
  have HA := Lib.hid hA.2
  have HB := Lib.hid hB.2
  have HL := Lib.hid hA.1
  clear hA hB
  go_enter Try.func61, Try.ntmps61
  go_wp2
  go_loopw [5] (fun i wr => ∃ k : Nat, k ≤ n ∧ i = .int .i64 k ∧ Hid (Below w.heap.size w wr)) (fun i _ => n - (intOf i).toNat)
  case atStart => exact ⟨0, Nat.zero_le _, rfl, Below.refl _ _⟩
  case round =>
    obtain ⟨k, hk, rfl, hW⟩ := hrel
    by_cases hlt : k < n
    · obtain ⟨b, off, rfl, hb, hc⟩ := HA.out (by omega)
      obtain ⟨b', off', rfl, hb', hc'⟩ := HB.out (by omega)
      obtain ⟨⟨xt, xp⟩, hx⟩ : ∃ x, l[k]? = some x := ⟨_, List.getElem?_eq_getElem (by rw [HL.out]; exact hlt)⟩
      have g1 : At w b (off + k * 2) _ := hc k _ hx
      have g2 : At w b' (off' + k * 2) _ := hc' k _ hx
      have f1 : ∀ q : Later w, _ := fun q => word_at (g1.heap (q.bel.block b hb))
      have f2 : ∀ q : Later w, _ := fun q => word_at (g2.heap (q.bel.block b' hb'))
      dsimp only at f1 f2
      clear hx hc hc' g1 g2
      have hk0 : (0 : Int) ≤ (k : Int) := by omega
      have hkn : (k : Int) < (n : Int) := by omega
      go_wp2
      refine wp_region_later (W := w) hW.out (by kernel_rfl) (by kernel_rfl) ?_
      repeat (go_big_quiet_step ((go_at_call 68; exact calls_later (eqWord_same ⟨xt, xp⟩ _))))
      refine wpQuiet_nil ?_
      rintro _ ⟨⟨w', hw'⟩, rfl⟩
      have Hw' := Lib.hid hw'
      clear hw' f1 f2
      go_wp2
      go_roundw
      case rel => exact ⟨k + 1, by omega, by go_num, Hw'.out⟩
      case measure => simp [intOf]; omega
    · obtain rfl : k = n := by omega
      have hlt' : ¬ (k : Int) < (k : Int) := by omega
      go_wp2
      go_ret
      exact ⟨rfl, hW.out⟩



end Go.Proofs.Ytakhjdodljhfmaa.Tx
namespace Go.Proofs.Ytakhjdodljhfmaa.Tx
open Go.RowKit

/-- A Word's kinds. -/
def wordKs : List FK := [.str, .bool]
theorem markWord_at (k j r : Nat) (hr : r < 2) : markF wordKs k (j * 2 + r) = markV (wordKs[r]?.getD .int) (k + (j * 2 + r)) := by
  have e : (j * 2 + r) % wordKs.length = r := by show (j * 2 + r) % 2 = r; omega
  rw [markF, e]

set_option maxRecDepth 100000 in
set_option maxHeartbeats 8000000 in
theorem markWordS_any (g n cap k : Nat) (hk : k + n * 2 ≤ 4611686018427387904) (w : World) (hT : There w g 0 (n * 2)) :
    Calls Try.prog 51 #[.slice (some ⟨g, 0, none⟩) n cap, .int .i64 (k : Int)] w fun e w' => e = .returned (.int .i64 ((k + n * 2 : Nat) : Int)) ∧ Filled w' g (markF wordKs k) (n * 2) ∧ w.grownBy w' (some g) := by
  have HT := Lib.hid hT
  clear hT
  go_enter Try.func51, Try.ntmps51
  go_wp2_with fail
  go_loopw [1, 5] (fun kv i wr => ∃ j : Nat, j ≤ n ∧ i = .int .i64 j ∧ kv = .int .i64 ((k + j * 2 : Nat) : Int) ∧ Hid (Filled wr g (markF wordKs k) (j * 2)) ∧ Hid (There wr g (j * 2) (n * 2)) ∧ Hid (w.grownBy wr (some g))) (fun _ i _ => n - (intOf i).toNat)
  case atStart => exact ⟨0, Nat.zero_le _, rfl, by simp, fun t ht => absurd ht (by omega), by rw [Nat.zero_mul]; exact HT.out, ⟨rfl, rfl, rfl, Nat.le_refl _, fun _ _ _ => rfl⟩⟩
  case round =>
    obtain ⟨j, hj, rfl, rfl, hM, hR, hG⟩ := hrel
    by_cases hlt : j < n
    · have hlt' : (j : Int) < (n : Int) := by omega
      have hj0 : (0 : Int) ≤ (j : Int) := by omega
      have hg := hR.out.lt (by omega)
      obtain ⟨K, hK⟩ : ∃ K, k + j * 2 = K := ⟨_, rfl⟩
      have HK := Lib.hid hK
      have hK1 : K + 2 ≤ 4611686018427387904 := by omega
      rw [hK]
      clear hK
      go_wp2_with fail
      obtain ⟨L, hL⟩ : ∃ L, L = K := ⟨_, rfl⟩
      have HL : Hid (L = K + 0) := hL
      rw [← hL]
      have hL1 : L + 2 ≤ 4611686018427387904 := by omega
      clear hL
      have HA1 : Hid (Filled wr g (markF wordKs k) (j * 2)) := hM.out
      have HA2 : Hid (There wr g (j * 2) (n * 2)) := hR.out
      have HA3 := Lib.hid hG.out
      clear hM hR hG
      have hgV := HA2.out.lt (by omega)
      refine (markText_any L (by omega) _).mono ?_
      rintro e w1 ⟨rfl, b1⟩
      have HB1 := Lib.hid (HA1.out.below hgV b1)
      have HB2 := Lib.hid (HA2.out.below hgV b1)
      have HB3 := Lib.hid (only_below HA3.out b1)
      clear b1 HA1 HA2 HA3
      obtain ⟨m, hm⟩ : ∃ m, markT L = m := ⟨_, rfl⟩
      have HM := Lib.hid hm
      rw [hm]
      clear hm
      obtain ⟨⟨v0, c0⟩, f0⟩ := HB2.out (j * 2) (by omega) (by omega)
      obtain ⟨⟨v1, c1⟩, f1⟩ := HB2.out (j * 2 + 1) (by omega) (by omega)
      have A := Filled.set (vs := [.string m, .bool (((L : Int) + 1) % 3 == 0)]) HB1.out HB2.out (by simp; omega) (fun i v hi => by
        match i, hi with
        | 0, hi => injection hi with hi; rw [← hi, markWord_at k j 0 (by omega), ← HM.out]; show Value.string _ = .string _; congr 2; have := HK.out; have := HL.out; omega
        | 1, hi => injection hi with hi; rw [← hi, show j * 2 + 1 = j * 2 + 1 by omega, markWord_at k j 1 (by omega)]; show Value.bool _ = .bool _; congr 3; have := HK.out; have := HL.out; omega
        | i + 2, hi => simp at hi)
      have HN1 : Hid (Filled (setAll w1 g (j * 2) [.string m, .bool (((L : Int) + 1) % 3 == 0)]) g (markF wordKs k) (j * 2 + 2)) := A.1
      have HN2 : Hid (There (setAll w1 g (j * 2) [.string m, .bool (((L : Int) + 1) % 3 == 0)]) g (j * 2 + 2) (n * 2)) := A.2
      have HN3 : Hid (w.grownBy (setAll w1 g (j * 2) [.string m, .bool (((L : Int) + 1) % 3 == 0)]) (some g)) := only_setRows _ _ HB3.out
      clear A
      go_wp2
      go_roundw
      case rel => exact ⟨j + 1, by omega, by go_num, by have := HK.out; have := HL.out; go_num, by rw [show (j + 1) * 2 = j * 2 + 2 by omega]; exact HN1.out, by rw [show (j + 1) * 2 = j * 2 + 2 by omega]; exact HN2.out, HN3.out⟩
      case measure => simp [intOf]; omega
    · obtain rfl : j = n := by omega
      have hlt' : ¬ (j : Int) < (j : Int) := by omega
      go_wp2
      go_ret
      exact ⟨rfl, hM.out, hG.out⟩

set_option maxRecDepth 100000 in
set_option maxHeartbeats 8000000 in
theorem heldWordS_any (g n cap k : Nat) (hk : k + n * 2 ≤ 4611686018427387904) (w : World) (hM : Filled w g (markF wordKs k) (n * 2)) :
    Calls Try.prog 52 #[.slice (some ⟨g, 0, none⟩) n cap, .int .i64 (k : Int)] w fun e w' => e = .returned (.int .i64 ((k + n * 2 : Nat) : Int)) ∧ Below w.heap.size w w' := by
  have HM := Lib.hid hM
  clear hM
  go_enter Try.func52, Try.ntmps52
  go_wp2_with fail
  go_loopw [1, 5] (fun kv i wr => ∃ j : Nat, j ≤ n ∧ i = .int .i64 j ∧ kv = .int .i64 ((k + j * 2 : Nat) : Int) ∧ Hid (Below w.heap.size w wr)) (fun _ i _ => n - (intOf i).toNat)
  case atStart => exact ⟨0, Nat.zero_le _, rfl, by simp, Below.refl _ _⟩
  case round =>
    obtain ⟨j, hj, rfl, rfl, hB⟩ := hrel
    by_cases hlt : j < n
    · have hlt' : (j : Int) < (n : Int) := by omega
      have hj0 : (0 : Int) ≤ (j : Int) := by omega
      have hg := World.block_lt_of_cell? w ⟨g, j * 2, none⟩ (HM.out (j * 2) (by omega))
      obtain ⟨K, hK⟩ : ∃ K, k + j * 2 = K := ⟨_, rfl⟩
      have HK := Lib.hid hK
      have hK1 : K + 2 ≤ 4611686018427387904 := by omega
      rw [hK]
      clear hK
      obtain ⟨L, hL⟩ : ∃ L, L = K + 0 := ⟨_, rfl⟩
      have HL := Lib.hid hL
      have hL1 : L + 2 ≤ 4611686018427387904 := by omega
      clear hL
      obtain ⟨m, hm⟩ : ∃ m, markT L = m := ⟨_, rfl⟩
      have HMM := Lib.hid hm
      clear hm
      have C0 : Hid (∀ q : Later w, q.w.cell? ⟨g, j * 2, none⟩ = some (.string m)) := fun q => by
        rw [q.bel.cell (p := ⟨g, j * 2, none⟩) hg, HM.out (j * 2) (by omega), show markF wordKs k (j * 2) = _ from markWord_at k j 0 (by omega), ← HMM.out]
        show some (Value.string _) = some (.string _)
        congr 3
        have := HK.out
        have := HL.out
        omega
      have C1 : Hid (∀ w', Below w.heap.size w w' → w'.cell? ⟨g, j * 2 + 1, none⟩ = some (.bool (((L : Int) + 1) % 3 == 0))) := fun w' hw => by
        rw [hw.cell (p := ⟨g, j * 2 + 1, none⟩) hg, HM.out (j * 2 + 1) (by omega), markWord_at k j 1 (by omega)]
        show some (Value.bool _) = some (.bool _)
        congr 4
        have := HK.out
        have := HL.out
        omega
      go_wp2
      have e5 : (K : Int) = (L : Int) := by have := HL.out; omega
      rw [e5]
      clear e5 
      have d0 := C0.out
      have cM : ∀ w' : World, Calls Try.prog 35 #[.int .i64 (L : Int)] w' fun e w'' => e = .returned (.string m) ∧ Below w'.heap.size w' w'' := fun w' => by
        have h1 := markText_any L (by omega) w'
        rw [HMM.out] at h1
        exact h1
      refine wp_region_later (W := w) hB.out (by kernel_rfl) (by kernel_rfl) ?_
      repeat (go_big_quiet_step ((go_at_call 35; exact calls_later (cM _))))
      refine wpQuiet_nil ?_
      rintro _ ⟨⟨w', hw'⟩, rfl⟩
      have Hw' := Lib.hid hw'
      have d1 := C1.out _ hw'
      clear hw' d0 cM
      go_wp2
      go_roundw
      case rel => exact ⟨j + 1, by omega, by go_num, by have := HK.out; have := HL.out; go_num, Hw'.out⟩
      case measure => simp [intOf]; omega
    · obtain rfl : j = n := by omega
      have hlt' : ¬ (j : Int) < (j : Int) := by omega
      go_wp2
      go_ret
      exact ⟨rfl, hB.out⟩

end Go.Proofs.Ytakhjdodljhfmaa.Tx
namespace Go.Proofs.Ytakhjdodljhfmaa.Tx
open Go.RowKit

theorem There.heap {w w' : World} {g a b : Nat} (h : There w g a b) (he : w'.heap[g]? = w.heap[g]?) : There w' g a b := fun t h0 h1 => by
  obtain ⟨⟨v, e⟩, e'⟩ := h t h0 h1
  exact ⟨⟨v, (World.cell?_of_block (w := w) (a := ⟨g, t, none⟩) he).trans e⟩, (World.frozen?_of_block (w := w) (a := ⟨g, t, none⟩) he).trans e'⟩
theorem CopyE.heap {α : Type} [Cells α] {w w' : World} {g n : Nat} {l : List α} (h : CopyE w g n l) (he : w'.heap[g]? = w.heap[g]?) (hs : w.heap.size ≤ w'.heap.size) : CopyE w' g n l := ⟨h.lies.heap he hs, h.room.heap he⟩

set_option maxHeartbeats 8000000 in
theorem eqSeat_same (s : SeatV) (A B : Option Addr) (n cap cb : Nat) (l : List WordV) (w : World) (hA' : EltsO w w.heap.size A n l) (hB' : EltsO w w.heap.size B n l) (hn : n ≤ 1048576) :
    Calls Try.prog 55 #[s.val A n cap, s.val B n cb] w fun e w' => e = .returned (.bool true) ∧ Below w.heap.size w w' := by
  have hA := Lib.hid hA'
  have hB := Lib.hid hB'
  clear hA' hB'
  obtain ⟨st, sh, sd, sp, ⟨⟨eu, es, eh, ea⟩, en⟩, ⟨⟨fu, fs, fh, fa⟩, fn⟩⟩ := s
  have HV1 : Hid (SeatV.val ⟨st, sh, sd, sp, ⟨⟨eu, es, eh, ea⟩, en⟩, ⟨⟨fu, fs, fh, fa⟩, fn⟩⟩ A n cap = .agg #[.int .i64 st, .int .i64 sh, .int .i64 sd, .int .i64 sp, .int .i64 eu, .int .i64 es, .int .i64 eh, .int .i64 ea, .int .i64 en, .int .i64 fu, .int .i64 fs, .int .i64 fh, .int .i64 fa, .int .i64 fn, .slice A n cap]) := rfl
  have HV2 : Hid (SeatV.val ⟨st, sh, sd, sp, ⟨⟨eu, es, eh, ea⟩, en⟩, ⟨⟨fu, fs, fh, fa⟩, fn⟩⟩ B n cb = .agg #[.int .i64 st, .int .i64 sh, .int .i64 sd, .int .i64 sp, .int .i64 eu, .int .i64 es, .int .i64 eh, .int .i64 ea, .int .i64 en, .int .i64 fu, .int .i64 fs, .int .i64 fh, .int .i64 fa, .int .i64 fn, .slice B n cb]) := rfl
  rw [HV1.out, HV2.out]
  clear HV1 HV2
  have cRe : Hid (∀ w' : World, Calls Try.prog 47 #[.agg #[.int .i64 eu, .int .i64 es, .int .i64 eh, .int .i64 ea, .int .i64 en], .agg #[.int .i64 eu, .int .i64 es, .int .i64 eh, .int .i64 ea, .int .i64 en]] w' fun e w'' => e = .returned (.bool true) ∧ Below w'.heap.size w' w'') := fun w' => by exact eqRow_same ⟨⟨eu, es, eh, ea⟩, en⟩ w'
  have cRf : Hid (∀ w' : World, Calls Try.prog 47 #[.agg #[.int .i64 fu, .int .i64 fs, .int .i64 fh, .int .i64 fa, .int .i64 fn], .agg #[.int .i64 fu, .int .i64 fs, .int .i64 fh, .int .i64 fa, .int .i64 fn]] w' fun e w'' => e = .returned (.bool true) ∧ Below w'.heap.size w' w'') := fun w' => by exact eqRow_same ⟨⟨fu, fs, fh, fa⟩, fn⟩ w'
  obtain ⟨W0, hW0⟩ : ∃ W, (w.alloc (.cells #[.int .i64 st, .int .i64 sh, .int .i64 sd, .int .i64 sp, .int .i64 eu, .int .i64 es, .int .i64 eh, .int .i64 ea, .int .i64 en, .int .i64 fu, .int .i64 fs, .int .i64 fh, .int .i64 fa, .int .i64 fn, .slice A n cap] 66)).alloc (.cells #[.int .i64 st, .int .i64 sh, .int .i64 sd, .int .i64 sp, .int .i64 eu, .int .i64 es, .int .i64 eh, .int .i64 ea, .int .i64 en, .int .i64 fu, .int .i64 fs, .int .i64 fh, .int .i64 fa, .int .i64 fn, .slice B n cb] 66) = W := ⟨_, rfl⟩
  have K0 : Hid (Below w.heap.size w W0) := by rw [← hW0]; exact ((Below.refl _ w).alloc (Nat.le_refl _) _).alloc (by simp; try omega) _
  have P0 : Hid (W0.heap[w.heap.size]? = some (.cells #[.int .i64 st, .int .i64 sh, .int .i64 sd, .int .i64 sp, .int .i64 eu, .int .i64 es, .int .i64 eh, .int .i64 ea, .int .i64 en, .int .i64 fu, .int .i64 fs, .int .i64 fh, .int .i64 fa, .int .i64 fn, .slice A n cap] 66)) := by rw [← hW0]; exact heap2a w _ _
  have Q0 : Hid (W0.heap[w.heap.size + 1]? = some (.cells #[.int .i64 st, .int .i64 sh, .int .i64 sd, .int .i64 sp, .int .i64 eu, .int .i64 es, .int .i64 eh, .int .i64 ea, .int .i64 en, .int .i64 fu, .int .i64 fs, .int .i64 fh, .int .i64 fa, .int .i64 fn, .slice B n cb] 66)) := by rw [← hW0]; exact heap2b w _ _
  obtain ⟨⟨a0, a1, a2, a3, a4, a5, a6, a7, a8, a9, a10, a11, a12, a13, a14⟩, _⟩ := blk15 P0.out
  obtain ⟨⟨b0, b1, b2, b3, b4, b5, b6, b7, b8, b9, b10, b11, b12, b13, b14⟩, _⟩ := blk15 Q0.out
  go_enter Try.func55, Try.ntmps55
  go_wp2_with fail
  clear a0 a1 a2 a3 a4 a5 a6 a7 a8 a9 a10 a11 a12 a13 a14
  clear b0 b1 b2 b3 b4 b5 b6 b7 b8 b9 b10 b11 b12 b13 b14
  clear hW0
  refine (cRe.out _).mono ?_
  rintro e w1 ⟨rfl, hb⟩
  have P1 := Lib.hid (blk_on hb P0.out)
  have Q1 := Lib.hid (blk_on hb Q0.out)
  have K1 := Lib.hid (K0.out.trans (hb.mono K0.out.size))
  clear hb P0 Q0 K0
  obtain ⟨⟨a0, a1, a2, a3, a4, a5, a6, a7, a8, a9, a10, a11, a12, a13, a14⟩, _⟩ := blk15 P1.out
  obtain ⟨⟨b0, b1, b2, b3, b4, b5, b6, b7, b8, b9, b10, b11, b12, b13, b14⟩, _⟩ := blk15 Q1.out
  go_wp2_with fail
  clear a0 a1 a2 a3 a4 a5 a6 a7 a8 a9 a10 a11 a12 a13 a14
  clear b0 b1 b2 b3 b4 b5 b6 b7 b8 b9 b10 b11 b12 b13 b14
  refine (cRf.out _).mono ?_
  rintro e w2 ⟨rfl, hb⟩
  have P2 := Lib.hid (blk_on hb P1.out)
  have Q2 := Lib.hid (blk_on hb Q1.out)
  have K2 := Lib.hid (K1.out.trans (hb.mono K1.out.size))
  clear hb P1 Q1 K1
  obtain ⟨⟨a0, a1, a2, a3, a4, a5, a6, a7, a8, a9, a10, a11, a12, a13, a14⟩, _⟩ := blk15 P2.out
  obtain ⟨⟨b0, b1, b2, b3, b4, b5, b6, b7, b8, b9, b10, b11, b12, b13, b14⟩, _⟩ := blk15 Q2.out
  go_wp2_with fail
  clear a0 a1 a2 a3 a4 a5 a6 a7 a8 a9 a10 a11 a12 a13 a14
  clear b0 b1 b2 b3 b4 b5 b6 b7 b8 b9 b10 b11 b12 b13 b14
  refine (eqWordS_same A B n cap cb l _ ((hA.out.below K2.out).mono K2.out.size) ((hB.out.below K2.out).mono K2.out.size) hn).mono ?_
  rintro e w3 ⟨rfl, hb⟩
  have P3 := Lib.hid (blk_on hb P2.out)
  have Q3 := Lib.hid (blk_on hb Q2.out)
  have K3 := Lib.hid (K2.out.trans (hb.mono K2.out.size))
  clear hb P2 Q2 K2
  go_wp2
  go_ret
  exact ⟨rfl, K3.out⟩

end Go.Proofs.Ytakhjdodljhfmaa.Tx

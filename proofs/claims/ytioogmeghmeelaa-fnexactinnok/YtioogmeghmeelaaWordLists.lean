/-
  What the laws' helpers over lists of Words do: they are copied, counted, held against each other, marked. Conditions: at most 1048576 of them; each text at most 2^63 - 1 bytes.
-/
import Derived.Laws.MakeOwn
import Derived.Test.YtioogmeghmeelaaEltsTo
import Derived.Test.YtioogmeghmeelaaSeat0
import Derived.Test.YtioogmeghmeelaaWord
import Derived.Test.YtioogmeghmeelaaRegionL
namespace Go.Proofs.Ytioogmeghmeelaa.Tx
open Go.RowKit

set_option maxRecDepth 100000 in
set_option maxHeartbeats 4000000 in
theorem eqWordS_same (A B : Option Addr) (n ca cb : Nat) (l : List WordV) (w : World) (hA : EltsO w w.heap.size A n l) (hB : EltsO w w.heap.size B n l) (hn : n ≤ 1048576) :
    Calls Try.prog 54 #[.slice A n ca, .slice B n cb] w fun e w' => e = .returned (.bool true) ∧ Below w.heap.size w w' := by
  have HA := Lib.hid hA.2
  have HB := Lib.hid hB.2
  have HL := Lib.hid hA.1
  clear hA hB
  go_enter Try.func54, Try.ntmps54
  go_wp2
  go_loopw [5] (fun i wr => ∃ k : Nat, k ≤ n ∧ i = .int .i64 k ∧ Hid (Below w.heap.size w wr)) (fun i _ => n - (intOf i).toNat)
  case atStart => exact ⟨0, Nat.zero_le _, rfl, Below.refl _ _⟩
  case round =>
    obtain ⟨k, hk, rfl, hW⟩ := hrel
    by_cases hlt : k < n
    · obtain ⟨b, off, rfl, hb, hc⟩ := HA.out (by omega)
      obtain ⟨b', off', rfl, hb', hc'⟩ := HB.out (by omega)
      obtain ⟨⟨xt, xp⟩, hx⟩ : ∃ x, l[k]? = some x := ⟨_, List.getElem?_eq_getElem (by rw [HL.out]; exact hlt)⟩
      have g1 : At w b (off + k * 2) _ := hc k _ hx
      have g2 : At w b' (off' + k * 2) _ := hc' k _ hx
      have f1 : ∀ q : Later w, _ := fun q => word_at (g1.heap (q.bel.block b hb))
      have f2 : ∀ q : Later w, _ := fun q => word_at (g2.heap (q.bel.block b' hb'))
      dsimp only at f1 f2
      clear hx hc hc' g1 g2
      have hk0 : (0 : Int) ≤ (k : Int) := by omega
      have hkn : (k : Int) < (n : Int) := by omega
      go_wp2
      refine wp_region_later (W := w) hW.out (by kernel_rfl) (by kernel_rfl) ?_
      repeat (go_big_quiet_step ((go_at_call 67; exact calls_later (eqWord_same ⟨xt, xp⟩ _))))
      refine wpQuiet_nil ?_
      rintro _ ⟨⟨w', hw'⟩, rfl⟩
      have Hw' := Lib.hid hw'
      clear hw' f1 f2
      go_wp2
      go_roundw
      case rel => exact ⟨k + 1, by omega, by go_num, Hw'.out⟩
      case measure => simp [intOf]; omega
    · obtain rfl : k = n := by omega
      have hlt' : ¬ (k : Int) < (k : Int) := by omega
      go_wp2
      go_ret
      exact ⟨rfl, hW.out⟩

theorem makeWordS (n : Nat) (hn : n ≤ 1048576) (w : World) : ∃ cs : Array Value, cs.size = n * 2 ∧ (Instr.makeSlice 44 (.int .i64 (n : Int)) (.int .i64 (n : Int))).run Try.prog w = .ok (.slice (some ⟨w.heap.size, 0, none⟩) n n) (w.alloc (.cells cs 92)) := by
  obtain ⟨i, hi⟩ := Option.isSome_iff_exists.1 (show (Try.prog.info? 92).isSome = true by kernel_rfl)
  have h1 : (Try.prog.info? 92).map (fun i => (i.zero, i.size)) = some (some (WordV.val .zero), 2) := by kernel_rfl
  have h2 : ((Try.prog.info? 92).map (fun i => decide (i.bytes ≤ 400))) = some true := by kernel_rfl
  rw [hi] at h1 h2
  simp only [Option.map_some, Option.some.injEq, Prod.mk.injEq, decide_eq_true_eq] at h1 h2
  have hb : (i.bytes : Int) * (n : Int) ≤ 400 * 1048576 := Int.mul_le_mul (by omega) (by omega) (by omega) (by omega)
  have := run_make (P := Try.prog) w 44 92 i _ Try.underlying44 hi h1.1 .i64 .i64 n n (by omega) (Int.le_refl _) (by omega) (by omega)
  rw [h1.2] at this
  refine ⟨_, ?_, by simpa using this⟩
  simp [size_madeCells]

set_option maxRecDepth 100000 in
set_option maxHeartbeats 4000000 in
theorem toWordS_any (A : Option Addr) (n cap : Nat) (l : List WordV) (w : World) (h : EltsO w w.heap.size A n l) (hn : n ≤ 1048576) :
    Calls Try.prog 44 #[.slice A n cap] w fun e w' => e = .returned (.slice (some ⟨w.heap.size, 0, none⟩) n n) ∧ CopiedE w n l w' := by
  have HC := Lib.hid h.2
  have HL := Lib.hid h.1
  clear h
  obtain ⟨cs, hcs, hmk⟩ := makeWordS n hn w
  obtain ⟨W0, hW0⟩ : ∃ W, w.alloc (.cells cs 92) = W := ⟨_, rfl⟩
  rw [hW0] at hmk
  have T0 : Hid (There W0 w.heap.size 0 (n * 2)) := fun t _ ht => by
    rw [← hW0]
    refine ⟨⟨cs[t]'(by omega), ?_⟩, blk_frozen (heap1 w _) t⟩
    rw [blk_cell (heap1 w _)]; exact Array.getElem?_eq_getElem (by omega)
  have B0 : Hid (Below w.heap.size w W0) := hW0 ▸ (Below.refl _ w).alloc (Nat.le_refl _) _
  have L0 : w.heap.size < W0.heap.size := by rw [← hW0]; simp
  clear hW0 hcs
  go_enter Try.func44, Try.ntmps44
  go_wp2_with fail
  clear hmk
  go_loopw [4] (fun i wr => ∃ k : Nat, k ≤ n ∧ i = .int .i64 k ∧ Hid (∀ j a, j < k → l[j]? = some a → At wr w.heap.size (j * 2) a) ∧ Hid (There wr w.heap.size 0 (n * 2)) ∧ w.heap.size < wr.heap.size ∧ Hid (Below w.heap.size w wr)) (fun i _ => n - (intOf i).toNat)
  case atStart => exact ⟨0, Nat.zero_le _, rfl, fun j a hj => absurd hj (by omega), T0.out, L0, B0.out⟩
  case round =>
    obtain ⟨k, hk, rfl, hM, hT, hL, hB⟩ := hrel
    by_cases hlt : k < n
    · obtain ⟨b, off, rfl, hb, hc⟩ := HC.out (by omega)
      obtain ⟨⟨xt, xp⟩, hx⟩ : ∃ x, l[k]? = some x := ⟨_, List.getElem?_eq_getElem (by rw [HL.out]; exact hlt)⟩
      have g1 : At w b (off + k * 2) _ := hc k _ hx
      obtain ⟨c0, c1⟩ := word_at (g1.heap (hB.out.block b hb))
      have HX := Lib.hid hx
      dsimp only at c0 c1
      have hk0 : (0 : Int) ≤ (k : Int) := by omega
      have hkn : (k : Int) < (n : Int) := by omega
      clear hx hc g1
      go_wp2_with fail
      refine (toWord_any ⟨xt, xp⟩ _).mono ?_
      rintro e w1 ⟨rfl, b1⟩
      have HT1 := Lib.hid (hT.out.below hL b1)
      have HB1 := Lib.hid (hB.out.trans (b1.mono hB.out.size))
      have HM1 : Hid (∀ j a, j < k → l[j]? = some a → At w1 w.heap.size (j * 2) a) := fun j a hj ha => (hM.out j a hj ha).heap (b1.block w.heap.size hL)
      have hL1 : w.heap.size < w1.heap.size := Nat.lt_of_lt_of_le hL b1.size
      have HV : Hid (WordV.val ⟨xt, xp⟩ = .agg #[.string xt, .bool xp]) := rfl
      rw [HV.out]
      clear b1 c0 c1 hM hT hB
      obtain ⟨⟨v0, d0⟩, f0⟩ := HT1.out (k * 2) (by omega) (by omega)
      obtain ⟨⟨v1, d1⟩, f1⟩ := HT1.out (k * 2 + 1) (by omega) (by omega)
      have HN1 : Hid (∀ j a, j < k + 1 → l[j]? = some a → At (Tx.setAll w1 w.heap.size (k * 2) (WordV.cells ⟨xt, xp⟩)) w.heap.size (j * 2) a) := fun j a hj ha => by
        by_cases e : j = k
        · subst e; rw [HX.out] at ha; rw [← Option.some.inj ha]; exact At.new (c := n * 2) _ HT1.out (by show j * 2 + 2 ≤ _; omega)
        · exact (HM1.out j a (by omega) ha).far (by show j * 2 + 2 ≤ _; omega)
      have HN2 : Hid (There (Tx.setAll w1 w.heap.size (k * 2) (WordV.cells ⟨xt, xp⟩)) w.heap.size 0 (n * 2)) := There.setAll _ _ HT1.out
      have HN3 : Hid (Below w.heap.size w (Tx.setAll w1 w.heap.size (k * 2) (WordV.cells ⟨xt, xp⟩))) := setAll_below (Nat.le_refl _) _ _ HB1.out
      have HN4 : Hid (w.heap.size < (Tx.setAll w1 w.heap.size (k * 2) (WordV.cells ⟨xt, xp⟩)).heap.size) := HN2.out.lt (by omega)
      go_wp2
      go_roundw
      case rel => exact ⟨k + 1, by omega, by go_num, HN1.out, HN2.out, HN4.out, HN3.out⟩
      case measure => simp [intOf]; omega
    · obtain rfl : k = n := by omega
      have hlt' : ¬ (k : Int) < (k : Int) := by omega
      go_wp2
      go_ret
      exact ⟨rfl, ⟨hL, fun j a ha => by rw [Nat.zero_add]; exact hM.out j a (by rw [← HL.out]; exact (List.getElem?_eq_some_iff.1 ha).1) ha⟩, hT.out, hL, hB.out⟩

set_option maxRecDepth 100000 in
set_option maxHeartbeats 4000000 in
theorem szWordS_any (A : Option Addr) (n cap : Nat) (l : List WordV) (L0 : Int) (w : World) (h : EltsO w w.heap.size A n l) (hn : n ≤ 9223372036854775807) (hs : ∀ t ∈ l, t.t.size ≤ 9223372036854775807) (h0 : 0 ≤ L0) (h1 : L0 ≤ 1048576) :
    Calls Try.prog 40 #[.slice A n cap, .int .i64 L0] w (SzOutE n w) := by
  have HC := Lib.hid h.2
  have HL := Lib.hid h.1
  have HS := Lib.hid hs
  clear h hs
  by_cases hl : L0 - (n : Int) < 0
  · go_enter Try.func40, Try.ntmps40
    go_wp2
    go_ret
    exact ⟨-1, rfl, by omega, fun h => absurd h (by omega), Below.refl _ _⟩
  · have hn1 : n ≤ 1048576 := by omega
    go_enter Try.func40, Try.ntmps40
    go_wp2
    go_loopw [1, 5] (fun l i wr => ∃ (k : Nat) (L : Int), k ≤ n ∧ i = .int .i64 k ∧ l = .int .i64 L ∧ 0 ≤ L ∧ L ≤ 1048576 ∧ Hid (Below w.heap.size w wr)) (fun _ i _ => n - (intOf i).toNat)
    case atStart => exact ⟨0, _, Nat.zero_le _, rfl, rfl, by omega, by omega, Below.refl _ _⟩
    case round =>
      obtain ⟨k, L, hk, rfl, rfl, hL0, hL1, hB⟩ := hrel
      by_cases hlt : k < n
      · obtain ⟨b, off, rfl, hb, hc⟩ := HC.out (by omega)
        obtain ⟨⟨xt, xp⟩, hx⟩ : ∃ x, l[k]? = some x := ⟨_, List.getElem?_eq_getElem (by rw [HL.out]; exact hlt)⟩
        have g1 : At w b (off + k * 2) _ := hc k _ hx
        have hsz := HS.out _ (List.mem_of_getElem? hx)
        obtain ⟨c0, c1⟩ := word_at (g1.heap (hB.out.block b hb))
        dsimp only at c0 c1 hsz
        have hk0 : (0 : Int) ≤ (k : Int) := by omega
        have hkn : (k : Int) < (n : Int) := by omega
        clear hx hc g1
        go_wp2_with fail
        refine (szWord_any ⟨xt, xp⟩ hsz L hL0 (by omega) _).mono ?_
        rintro e w1 ⟨rfl, b1⟩
        have HB1 := Lib.hid (hB.out.trans (b1.mono hB.out.size))
        obtain ⟨M, hM⟩ : ∃ M, szLeft L xt.size = M := ⟨_, rfl⟩
        have hM1 : M ≤ 1048576 := by rw [← hM]; unfold szLeft; split <;> omega
        dsimp only
        rw [hM]
        clear b1 c0 c1 hM
        by_cases hM0 : M < 0
        · go_wp2
          go_ret
          exact ⟨-1, rfl, by omega, fun h => absurd h (by omega), HB1.out⟩
        · go_wp2
          go_roundw
          case rel => exact ⟨k + 1, M, by omega, by go_num, rfl, by omega, hM1, HB1.out⟩
          case measure => simp [intOf]; omega
      · obtain rfl : k = n := by omega
        have hlt' : ¬ (k : Int) < (k : Int) := by omega
        go_wp2
        go_ret
        exact ⟨L, rfl, hL1, fun _ => by omega, hB.out⟩

end Go.Proofs.Ytioogmeghmeelaa.Tx

/-
  What toWord, szWord and eqWord of the laws do. Condition: a word's text has at most 2^63 - 1 bytes.
  What the laws' helpers over lists of Words do: they are copied, counted, held against each other, marked. Conditions: at most 1048576 of them; each text at most 2^63 - 1 bytes.
  What markWordS and heldWordS of the laws do: each cell of each word of a list is marked by its own number, and they are found so. Conditions: numbers from 0 to 2^62.
  What toSeat, szSeat, eqSeat, markSeat and heldSeat of the laws do, and what EarlyIn of the model answers. Conditions: at most 1048576 words, each text at most 2^63 - 1 bytes.
-/
import Derived.Deep.DeepCutAuto
import Derived.Laws.CopyOwn
import Derived.Test.YtioogmeghmeelaaGreatBox
import Derived.Test.YtioogmeghmeelaaGreatSeat0
import Derived.Laws.MakeOwn
import Derived.Test.YtioogmeghmeelaaGreatEltsTo
import Derived.Test.YtioogmeghmeelaaGreatRegionL
import Derived.Test.YtioogmeghmeelaaGreatMarkBox
import Derived.Test.YtioogmeghmeelaaGreatSeat
import Derived.Test.YtioogmeghmeelaaGreatCopyE
import Derived.Test.YtioogmeghmeelaaGreatOffs
namespace Go.Proofs.YtioogmeghmeelaaGreat.Tx
open Go.RowKit

set_option maxHeartbeats 2000000 in
theorem toWord_any (q : WordV) (w : World) : Calls Tryz.prog 76 #[q.val] w fun e w' => e = .returned q.val ∧ Below w.heap.size w w' := by
  obtain ⟨xt, xp⟩ := q
  have HV : Hid (WordV.val ⟨xt, xp⟩ = .agg #[.string xt, .bool xp]) := rfl
  rw [HV.out]
  obtain ⟨W, hW⟩ : ∃ W, ((w.alloc (.cells #[.string xt, .bool xp] 112)).alloc (.cells #[.string ⟨#[]⟩, .bool false] 107)).alloc (.cells #[.string xt, .bool xp] 107) = W := ⟨_, rfl⟩
  have HB0 : Hid (Below w.heap.size w W) := by rw [← hW]; exact (((Below.refl _ w).alloc (Nat.le_refl _) _).alloc (by simp) _).alloc (by simp; omega) _
  have R0 : Hid (W.heap[w.heap.size + 1]? = some (.cells #[.string ⟨#[]⟩, .bool false] 107)) := by rw [← hW]; exact heap3b w _ _ _
  have O0 : Hid (W.heap[w.heap.size + 1 + 1]? = some (.cells #[.string xt, .bool xp] 107)) := by rw [← hW]; exact heap3c w _ _ _
  go_enter Tryz.func76, Tryz.ntmps76
  go_upto_region 4 with fail
  try rw [hW]
  clear hW
  refine wp_region_lit ?_
  refine wpList_load_row rfl 107 (.tmp 3) rfl (w.heap.size + 1 + 1) rfl 107 _ (0, 0) _ O0.out Tryz.underlying107 rfl (by kernel_rfl) ?_
  refine wpList_store_row rfl 107 (.tmp 2) (.tmp 10) rfl (w.heap.size + 1) #[.string xt, .bool xp] rfl rfl 107 _ R0.out (by kernel_rfl) rfl (by simp [Value.oneCell']) ?_
  have HV3 := Lib.hid (setRow_heap _ _ _ #[.string xt, .bool xp] _ _ R0.out)
  have HB4 := Lib.hid (below_setRow HB0.out (g := w.heap.size + 1) (by omega) #[.string xt, .bool xp])
  clear R0 O0 HB0
  generalize W.setRow (w.heap.size + 1) #[.string xt, .bool xp] = V3 at HV3 HB4 ⊢
  go_wp2
  exact row_ret (cs := #[.string xt, .bool xp]) rfl rfl HV3.out Tryz.underlying107 rfl (by kernel_rfl) rfl ⟨rfl, HB4.out⟩

theorem szWord_any (q : WordV) (hx : q.t.size ≤ 9223372036854775807) (left : Int) (h0 : 0 ≤ left) (h1 : left ≤ 1099511627776) (w : World) : Calls Tryz.prog 72 #[q.val, .int .i64 left] w fun e w' => e = .returned (.int .i64 (szLeft left q.t.size)) ∧ Below w.heap.size w w' := by
  obtain ⟨xt, xp⟩ := q
  have HV : Hid (WordV.val ⟨xt, xp⟩ = .agg #[.string xt, .bool xp]) := rfl
  rw [HV.out]
  dsimp only at hx ⊢
  have HB : Hid (Below w.heap.size w (w.alloc (.cells #[.string xt, .bool xp] 112))) := (Below.refl _ w).alloc (Nat.le_refl _) _
  by_cases hl : left - (xt.size : Int) < 0
  · have HR : Hid (szLeft left xt.size = -1) := if_pos hl
    go_enter Tryz.func72, Tryz.ntmps72
    go_wp2
    go_ret
    exact ⟨by rw [HR.out]; rfl, HB.out⟩
  · have HR : Hid (szLeft left xt.size = left - xt.size) := if_neg hl
    go_enter Tryz.func72, Tryz.ntmps72
    go_wp2
    go_ret
    exact ⟨by rw [HR.out]; rfl, HB.out⟩

theorem eqWord_same (q : WordV) (w : World) : Calls Tryz.prog 86 #[q.val, q.val] w fun e w' => e = .returned (.bool true) ∧ Below w.heap.size w w' := by
  obtain ⟨xt, xp⟩ := q
  have HV : Hid (WordV.val ⟨xt, xp⟩ = .agg #[.string xt, .bool xp]) := rfl
  rw [HV.out]
  have HB : Hid (Below w.heap.size w ((w.alloc (.cells #[.string xt, .bool xp] 107)).alloc (.cells #[.string xt, .bool xp] 107))) := ((Below.refl _ w).alloc (Nat.le_refl _) _).alloc (by simp) _
  have hpp : (xp != xp) = false := by simp
  go_enter Tryz.func86, Tryz.ntmps86
  go_wp2
  go_ret
  exact ⟨rfl, HB.out⟩

end Go.Proofs.YtioogmeghmeelaaGreat.Tx
namespace Go.Proofs.YtioogmeghmeelaaGreat.Tx
open Go.RowKit

set_option maxRecDepth 100000 in
set_option maxHeartbeats 4000000 in
theorem eqWordS_same (A B : Option Addr) (n ca cb : Nat) (l : List WordV) (w : World) (hA : EltsO w w.heap.size A n l) (hB : EltsO w w.heap.size B n l) (hn : n ≤ 1048576) :
    Calls Tryz.prog 70 #[.slice A n ca, .slice B n cb] w fun e w' => e = .returned (.bool true) ∧ Below w.heap.size w w' := by
  have HA := Lib.hid hA.2
  have HB := Lib.hid hB.2
  have HL := Lib.hid hA.1
  clear hA hB
  go_enter Tryz.func70, Tryz.ntmps70
  go_wp2
  go_loopw [5] (fun i wr => ∃ k : Nat, k ≤ n ∧ i = .int .i64 k ∧ Hid (Below w.heap.size w wr)) (fun i _ => n - (intOf i).toNat)
  case atStart => exact ⟨0, Nat.zero_le _, rfl, Below.refl _ _⟩
  case round =>
    obtain ⟨k, hk, rfl, hW⟩ := hrel
    by_cases hlt : k < n
    · obtain ⟨b, off, rfl, hb, hc⟩ := HA.out (by omega)
      obtain ⟨b', off', rfl, hb', hc'⟩ := HB.out (by omega)
      obtain ⟨⟨xt, xp⟩, hx⟩ : ∃ x, l[k]? = some x := ⟨_, List.getElem?_eq_getElem (by rw [HL.out]; exact hlt)⟩
      have g1 : At w b (off + k * 2) _ := hc k _ hx
      have g2 : At w b' (off' + k * 2) _ := hc' k _ hx
      have f1 : ∀ q : Later w, _ := fun q => word_at (g1.heap (q.bel.block b hb))
      have f2 : ∀ q : Later w, _ := fun q => word_at (g2.heap (q.bel.block b' hb'))
      dsimp only at f1 f2
      clear hx hc hc' g1 g2
      have hk0 : (0 : Int) ≤ (k : Int) := by omega
      have hkn : (k : Int) < (n : Int) := by omega
      go_wp2
      refine wp_region_later (W := w) hW.out (by kernel_rfl) (by kernel_rfl) ?_
      repeat (go_big_quiet_step ((go_at_call 86; exact calls_later (eqWord_same ⟨xt, xp⟩ _))))
      refine wpQuiet_nil ?_
      rintro _ ⟨⟨w', hw'⟩, rfl⟩
      have Hw' := Lib.hid hw'
      clear hw' f1 f2
      go_wp2
      go_roundw
      case rel => exact ⟨k + 1, by omega, by go_num, Hw'.out⟩
      case measure => simp [intOf]; omega
    · obtain rfl : k = n := by omega
      have hlt' : ¬ (k : Int) < (k : Int) := by omega
      go_wp2
      go_ret
      exact ⟨rfl, hW.out⟩

theorem makeWordS (n : Nat) (hn : n ≤ 1048576) (w : World) : ∃ cs : Array Value, cs.size = n * 2 ∧ (Instr.makeSlice 66 (.int .i64 (n : Int)) (.int .i64 (n : Int))).run Tryz.prog w = .ok (.slice (some ⟨w.heap.size, 0, none⟩) n n) (w.alloc (.cells cs 107)) := by
  obtain ⟨i, hi⟩ := Option.isSome_iff_exists.1 (show (Tryz.prog.info? 107).isSome = true by kernel_rfl)
  have h1 : (Tryz.prog.info? 107).map (fun i => (i.zero, i.size)) = some (some (WordV.val .zero), 2) := by kernel_rfl
  have h2 : ((Tryz.prog.info? 107).map (fun i => decide (i.bytes ≤ 400))) = some true := by kernel_rfl
  rw [hi] at h1 h2
  simp only [Option.map_some, Option.some.injEq, Prod.mk.injEq, decide_eq_true_eq] at h1 h2
  have hb : (i.bytes : Int) * (n : Int) ≤ 400 * 1048576 := Int.mul_le_mul (by omega) (by omega) (by omega) (by omega)
  have := run_make (P := Tryz.prog) w 66 107 i _ Tryz.underlying66 hi h1.1 .i64 .i64 n n (by omega) (Int.le_refl _) (by omega) (by omega)
  rw [h1.2] at this
  refine ⟨_, ?_, by simpa using this⟩
  simp [size_madeCells]

set_option maxRecDepth 100000 in
set_option maxHeartbeats 4000000 in
theorem toWordS_any (A : Option Addr) (n cap : Nat) (l : List WordV) (w : World) (h : EltsO w w.heap.size A n l) (hn : n ≤ 1048576) :
    Calls Tryz.prog 58 #[.slice A n cap] w fun e w' => e = .returned (.slice (some ⟨w.heap.size, 0, none⟩) n n) ∧ CopiedE w n l w' := by
  have HC := Lib.hid h.2
  have HL := Lib.hid h.1
  clear h
  obtain ⟨cs, hcs, hmk⟩ := makeWordS n hn w
  obtain ⟨W0, hW0⟩ : ∃ W, w.alloc (.cells cs 107) = W := ⟨_, rfl⟩
  rw [hW0] at hmk
  have T0 : Hid (There W0 w.heap.size 0 (n * 2)) := fun t _ ht => by
    rw [← hW0]
    refine ⟨⟨cs[t]'(by omega), ?_⟩, blk_frozen (heap1 w _) t⟩
    rw [blk_cell (heap1 w _)]; exact Array.getElem?_eq_getElem (by omega)
  have B0 : Hid (Below w.heap.size w W0) := hW0 ▸ (Below.refl _ w).alloc (Nat.le_refl _) _
  have L0 : w.heap.size < W0.heap.size := by rw [← hW0]; simp
  clear hW0 hcs
  go_enter Tryz.func58, Tryz.ntmps58
  go_wp2_with fail
  clear hmk
  go_loopw [4] (fun i wr => ∃ k : Nat, k ≤ n ∧ i = .int .i64 k ∧ Hid (∀ j a, j < k → l[j]? = some a → At wr w.heap.size (j * 2) a) ∧ Hid (There wr w.heap.size 0 (n * 2)) ∧ w.heap.size < wr.heap.size ∧ Hid (Below w.heap.size w wr)) (fun i _ => n - (intOf i).toNat)
  case atStart => exact ⟨0, Nat.zero_le _, rfl, fun j a hj => absurd hj (by omega), T0.out, L0, B0.out⟩
  case round =>
    obtain ⟨k, hk, rfl, hM, hT, hL, hB⟩ := hrel
    by_cases hlt : k < n
    · obtain ⟨b, off, rfl, hb, hc⟩ := HC.out (by omega)
      obtain ⟨⟨xt, xp⟩, hx⟩ : ∃ x, l[k]? = some x := ⟨_, List.getElem?_eq_getElem (by rw [HL.out]; exact hlt)⟩
      have g1 : At w b (off + k * 2) _ := hc k _ hx
      obtain ⟨c0, c1⟩ := word_at (g1.heap (hB.out.block b hb))
      have HX := Lib.hid hx
      dsimp only at c0 c1
      have hk0 : (0 : Int) ≤ (k : Int) := by omega
      have hkn : (k : Int) < (n : Int) := by omega
      clear hx hc g1
      go_wp2_with fail
      refine (toWord_any ⟨xt, xp⟩ _).mono ?_
      rintro e w1 ⟨rfl, b1⟩
      have HT1 := Lib.hid (hT.out.below hL b1)
      have HB1 := Lib.hid (hB.out.trans (b1.mono hB.out.size))
      have HM1 : Hid (∀ j a, j < k → l[j]? = some a → At w1 w.heap.size (j * 2) a) := fun j a hj ha => (hM.out j a hj ha).heap (b1.block w.heap.size hL)
      have hL1 : w.heap.size < w1.heap.size := Nat.lt_of_lt_of_le hL b1.size
      have HV : Hid (WordV.val ⟨xt, xp⟩ = .agg #[.string xt, .bool xp]) := rfl
      rw [HV.out]
      clear b1 c0 c1 hM hT hB
      obtain ⟨⟨v0, d0⟩, f0⟩ := HT1.out (k * 2) (by omega) (by omega)
      obtain ⟨⟨v1, d1⟩, f1⟩ := HT1.out (k * 2 + 1) (by omega) (by omega)
      have HN1 : Hid (∀ j a, j < k + 1 → l[j]? = some a → At (Tx.setAll w1 w.heap.size (k * 2) (WordV.cells ⟨xt, xp⟩)) w.heap.size (j * 2) a) := fun j a hj ha => by
        by_cases e : j = k
        · subst e; rw [HX.out] at ha; rw [← Option.some.inj ha]; exact At.new (c := n * 2) _ HT1.out (by show j * 2 + 2 ≤ _; omega)
        · exact (HM1.out j a (by omega) ha).far (by show j * 2 + 2 ≤ _; omega)
      have HN2 : Hid (There (Tx.setAll w1 w.heap.size (k * 2) (WordV.cells ⟨xt, xp⟩)) w.heap.size 0 (n * 2)) := There.setAll _ _ HT1.out
      have HN3 : Hid (Below w.heap.size w (Tx.setAll w1 w.heap.size (k * 2) (WordV.cells ⟨xt, xp⟩))) := setAll_below (Nat.le_refl _) _ _ HB1.out
      have HN4 : Hid (w.heap.size < (Tx.setAll w1 w.heap.size (k * 2) (WordV.cells ⟨xt, xp⟩)).heap.size) := HN2.out.lt (by omega)
      go_wp2
      go_roundw
      case rel => exact ⟨k + 1, by omega, by go_num, HN1.out, HN2.out, HN4.out, HN3.out⟩
      case measure => simp [intOf]; omega
    · obtain rfl : k = n := by omega
      have hlt' : ¬ (k : Int) < (k : Int) := by omega
      go_wp2
      go_ret
      exact ⟨rfl, ⟨hL, fun j a ha => by rw [Nat.zero_add]; exact hM.out j a (by rw [← HL.out]; exact (List.getElem?_eq_some_iff.1 ha).1) ha⟩, hT.out, hL, hB.out⟩

set_option maxRecDepth 100000 in
set_option maxHeartbeats 4000000 in
theorem szWordS_any (A : Option Addr) (n cap : Nat) (l : List WordV) (L0 : Int) (w : World) (h : EltsO w w.heap.size A n l) (hn : n ≤ 9223372036854775807) (hs : ∀ t ∈ l, t.t.size ≤ 9223372036854775807) (h0 : 0 ≤ L0) (h1 : L0 ≤ 1048576) :
    Calls Tryz.prog 50 #[.slice A n cap, .int .i64 L0] w (SzOutE n w) := by
  have HC := Lib.hid h.2
  have HL := Lib.hid h.1
  have HS := Lib.hid hs
  clear h hs
  by_cases hl : L0 - (n : Int) < 0
  · go_enter Tryz.func50, Tryz.ntmps50
    go_wp2
    go_ret
    exact ⟨-1, rfl, by omega, fun h => absurd h (by omega), Below.refl _ _⟩
  · have hn1 : n ≤ 1048576 := by omega
    go_enter Tryz.func50, Tryz.ntmps50
    go_wp2
    go_loopw [1, 5] (fun l i wr => ∃ (k : Nat) (L : Int), k ≤ n ∧ i = .int .i64 k ∧ l = .int .i64 L ∧ 0 ≤ L ∧ L ≤ 1048576 ∧ Hid (Below w.heap.size w wr)) (fun _ i _ => n - (intOf i).toNat)
    case atStart => exact ⟨0, _, Nat.zero_le _, rfl, rfl, by omega, by omega, Below.refl _ _⟩
    case round =>
      obtain ⟨k, L, hk, rfl, rfl, hL0, hL1, hB⟩ := hrel
      by_cases hlt : k < n
      · obtain ⟨b, off, rfl, hb, hc⟩ := HC.out (by omega)
        obtain ⟨⟨xt, xp⟩, hx⟩ : ∃ x, l[k]? = some x := ⟨_, List.getElem?_eq_getElem (by rw [HL.out]; exact hlt)⟩
        have g1 : At w b (off + k * 2) _ := hc k _ hx
        have hsz := HS.out _ (List.mem_of_getElem? hx)
        obtain ⟨c0, c1⟩ := word_at (g1.heap (hB.out.block b hb))
        dsimp only at c0 c1 hsz
        have hk0 : (0 : Int) ≤ (k : Int) := by omega
        have hkn : (k : Int) < (n : Int) := by omega
        clear hx hc g1
        go_wp2_with fail
        refine (szWord_any ⟨xt, xp⟩ hsz L hL0 (by omega) _).mono ?_
        rintro e w1 ⟨rfl, b1⟩
        have HB1 := Lib.hid (hB.out.trans (b1.mono hB.out.size))
        obtain ⟨M, hM⟩ : ∃ M, szLeft L xt.size = M := ⟨_, rfl⟩
        have hM1 : M ≤ 1048576 := by rw [← hM]; unfold szLeft; split <;> omega
        dsimp only
        rw [hM]
        clear b1 c0 c1 hM
        by_cases hM0 : M < 0
        · go_wp2
          go_ret
          exact ⟨-1, rfl, by omega, fun h => absurd h (by omega), HB1.out⟩
        · go_wp2
          go_roundw
          case rel => exact ⟨k + 1, M, by omega, by go_num, rfl, by omega, hM1, HB1.out⟩
          case measure => simp [intOf]; omega
      · obtain rfl : k = n := by omega
        have hlt' : ¬ (k : Int) < (k : Int) := by omega
        go_wp2
        go_ret
        exact ⟨L, rfl, hL1, fun _ => by omega, hB.out⟩

end Go.Proofs.YtioogmeghmeelaaGreat.Tx
namespace Go.Proofs.YtioogmeghmeelaaGreat.Tx
open Go.RowKit

/-- A Word's kinds. -/
def wordKs : List FK := [.str, .bool]
theorem markWord_at (k j r : Nat) (hr : r < 2) : markF wordKs k (j * 2 + r) = markV (wordKs[r]?.getD .int) (k + (j * 2 + r)) := by
  have e : (j * 2 + r) % wordKs.length = r := by show (j * 2 + r) % 2 = r; omega
  rw [markF, e]

set_option maxRecDepth 100000 in
set_option maxHeartbeats 8000000 in
theorem markWordS_any (g n cap k : Nat) (hk : k + n * 2 ≤ 4611686018427387904) (w : World) (hT : There w g 0 (n * 2)) :
    Calls Tryz.prog 47 #[.slice (some ⟨g, 0, none⟩) n cap, .int .i64 (k : Int)] w fun e w' => e = .returned (.int .i64 ((k + n * 2 : Nat) : Int)) ∧ Filled w' g (markF wordKs k) (n * 2) ∧ w.grownBy w' (some g) := by
  have HT := Lib.hid hT
  clear hT
  go_enter Tryz.func47, Tryz.ntmps47
  go_wp2_with fail
  go_loopw [1, 5] (fun kv i wr => ∃ j : Nat, j ≤ n ∧ i = .int .i64 j ∧ kv = .int .i64 ((k + j * 2 : Nat) : Int) ∧ Hid (Filled wr g (markF wordKs k) (j * 2)) ∧ Hid (There wr g (j * 2) (n * 2)) ∧ Hid (w.grownBy wr (some g))) (fun _ i _ => n - (intOf i).toNat)
  case atStart => exact ⟨0, Nat.zero_le _, rfl, by simp, fun t ht => absurd ht (by omega), by rw [Nat.zero_mul]; exact HT.out, ⟨rfl, rfl, rfl, Nat.le_refl _, fun _ _ _ => rfl⟩⟩
  case round =>
    obtain ⟨j, hj, rfl, rfl, hM, hR, hG⟩ := hrel
    by_cases hlt : j < n
    · have hlt' : (j : Int) < (n : Int) := by omega
      have hj0 : (0 : Int) ≤ (j : Int) := by omega
      have hg := hR.out.lt (by omega)
      obtain ⟨K, hK⟩ : ∃ K, k + j * 2 = K := ⟨_, rfl⟩
      have HK := Lib.hid hK
      have hK1 : K + 2 ≤ 4611686018427387904 := by omega
      rw [hK]
      clear hK
      go_wp2_with fail
      obtain ⟨L, hL⟩ : ∃ L, L = K := ⟨_, rfl⟩
      have HL : Hid (L = K + 0) := hL
      rw [← hL]
      have hL1 : L + 2 ≤ 4611686018427387904 := by omega
      clear hL
      have HA1 : Hid (Filled wr g (markF wordKs k) (j * 2)) := hM.out
      have HA2 : Hid (There wr g (j * 2) (n * 2)) := hR.out
      have HA3 := Lib.hid hG.out
      clear hM hR hG
      have hgV := HA2.out.lt (by omega)
      refine (markText_any L (by omega) _).mono ?_
      rintro e w1 ⟨rfl, b1⟩
      have HB1 := Lib.hid (HA1.out.below hgV b1)
      have HB2 := Lib.hid (HA2.out.below hgV b1)
      have HB3 := Lib.hid (only_below HA3.out b1)
      clear b1 HA1 HA2 HA3
      obtain ⟨m, hm⟩ : ∃ m, markT L = m := ⟨_, rfl⟩
      have HM := Lib.hid hm
      rw [hm]
      clear hm
      obtain ⟨⟨v0, c0⟩, f0⟩ := HB2.out (j * 2) (by omega) (by omega)
      obtain ⟨⟨v1, c1⟩, f1⟩ := HB2.out (j * 2 + 1) (by omega) (by omega)
      have A := Filled.set (vs := [.string m, .bool (((L : Int) + 1) % 3 == 0)]) HB1.out HB2.out (by simp; omega) (fun i v hi => by
        match i, hi with
        | 0, hi => injection hi with hi; rw [← hi, markWord_at k j 0 (by omega), ← HM.out]; show Value.string _ = .string _; congr 2; have := HK.out; have := HL.out; omega
        | 1, hi => injection hi with hi; rw [← hi, show j * 2 + 1 = j * 2 + 1 by omega, markWord_at k j 1 (by omega)]; show Value.bool _ = .bool _; congr 3; have := HK.out; have := HL.out; omega
        | i + 2, hi => simp at hi)
      have HN1 : Hid (Filled (setAll w1 g (j * 2) [.string m, .bool (((L : Int) + 1) % 3 == 0)]) g (markF wordKs k) (j * 2 + 2)) := A.1
      have HN2 : Hid (There (setAll w1 g (j * 2) [.string m, .bool (((L : Int) + 1) % 3 == 0)]) g (j * 2 + 2) (n * 2)) := A.2
      have HN3 : Hid (w.grownBy (setAll w1 g (j * 2) [.string m, .bool (((L : Int) + 1) % 3 == 0)]) (some g)) := only_setRows _ _ HB3.out
      clear A
      go_wp2
      go_roundw
      case rel => exact ⟨j + 1, by omega, by go_num, by have := HK.out; have := HL.out; go_num, by rw [show (j + 1) * 2 = j * 2 + 2 by omega]; exact HN1.out, by rw [show (j + 1) * 2 = j * 2 + 2 by omega]; exact HN2.out, HN3.out⟩
      case measure => simp [intOf]; omega
    · obtain rfl : j = n := by omega
      have hlt' : ¬ (j : Int) < (j : Int) := by omega
      go_wp2
      go_ret
      exact ⟨rfl, hM.out, hG.out⟩

set_option maxRecDepth 100000 in
set_option maxHeartbeats 8000000 in
theorem heldWordS_any (g n cap k : Nat) (hk : k + n * 2 ≤ 4611686018427387904) (w : World) (hM : Filled w g (markF wordKs k) (n * 2)) :
    Calls Tryz.prog 49 #[.slice (some ⟨g, 0, none⟩) n cap, .int .i64 (k : Int)] w fun e w' => e = .returned (.int .i64 ((k + n * 2 : Nat) : Int)) ∧ Below w.heap.size w w' := by
  have HM := Lib.hid hM
  clear hM
  go_enter Tryz.func49, Tryz.ntmps49
  go_wp2_with fail
  go_loopw [1, 5] (fun kv i wr => ∃ j : Nat, j ≤ n ∧ i = .int .i64 j ∧ kv = .int .i64 ((k + j * 2 : Nat) : Int) ∧ Hid (Below w.heap.size w wr)) (fun _ i _ => n - (intOf i).toNat)
  case atStart => exact ⟨0, Nat.zero_le _, rfl, by simp, Below.refl _ _⟩
  case round =>
    obtain ⟨j, hj, rfl, rfl, hB⟩ := hrel
    by_cases hlt : j < n
    · have hlt' : (j : Int) < (n : Int) := by omega
      have hj0 : (0 : Int) ≤ (j : Int) := by omega
      have hg := World.block_lt_of_cell? w ⟨g, j * 2, none⟩ (HM.out (j * 2) (by omega))
      obtain ⟨K, hK⟩ : ∃ K, k + j * 2 = K := ⟨_, rfl⟩
      have HK := Lib.hid hK
      have hK1 : K + 2 ≤ 4611686018427387904 := by omega
      rw [hK]
      clear hK
      obtain ⟨L, hL⟩ : ∃ L, L = K + 0 := ⟨_, rfl⟩
      have HL := Lib.hid hL
      have hL1 : L + 2 ≤ 4611686018427387904 := by omega
      clear hL
      obtain ⟨m, hm⟩ : ∃ m, markT L = m := ⟨_, rfl⟩
      have HMM := Lib.hid hm
      clear hm
      have C0 : Hid (∀ q : Later w, q.w.cell? ⟨g, j * 2, none⟩ = some (.string m)) := fun q => by
        rw [q.bel.cell (p := ⟨g, j * 2, none⟩) hg, HM.out (j * 2) (by omega), show markF wordKs k (j * 2) = _ from markWord_at k j 0 (by omega), ← HMM.out]
        show some (Value.string _) = some (.string _)
        congr 3
        have := HK.out
        have := HL.out
        omega
      have C1 : Hid (∀ w', Below w.heap.size w w' → w'.cell? ⟨g, j * 2 + 1, none⟩ = some (.bool (((L : Int) + 1) % 3 == 0))) := fun w' hw => by
        rw [hw.cell (p := ⟨g, j * 2 + 1, none⟩) hg, HM.out (j * 2 + 1) (by omega), markWord_at k j 1 (by omega)]
        show some (Value.bool _) = some (.bool _)
        congr 4
        have := HK.out
        have := HL.out
        omega
      go_wp2
      have e5 : (K : Int) = (L : Int) := by have := HL.out; omega
      rw [e5]
      clear e5 
      have d0 := C0.out
      have cM : ∀ w' : World, Calls Tryz.prog 71 #[.int .i64 (L : Int)] w' fun e w'' => e = .returned (.string m) ∧ Below w'.heap.size w' w'' := fun w' => by
        have h1 := markText_any L (by omega) w'
        rw [HMM.out] at h1
        exact h1
      refine wp_region_later (W := w) hB.out (by kernel_rfl) (by kernel_rfl) ?_
      repeat (go_big_quiet_step ((go_at_call 71; exact calls_later (cM _))))
      refine wpQuiet_nil ?_
      rintro _ ⟨⟨w', hw'⟩, rfl⟩
      have Hw' := Lib.hid hw'
      have d1 := C1.out _ hw'
      clear hw' d0 cM
      go_wp2
      go_roundw
      case rel => exact ⟨j + 1, by omega, by go_num, by have := HK.out; have := HL.out; go_num, Hw'.out⟩
      case measure => simp [intOf]; omega
    · obtain rfl : j = n := by omega
      have hlt' : ¬ (j : Int) < (j : Int) := by omega
      go_wp2
      go_ret
      exact ⟨rfl, hB.out⟩

end Go.Proofs.YtioogmeghmeelaaGreat.Tx
namespace Go.Proofs.YtioogmeghmeelaaGreat.Tx
open Go.RowKit

theorem There.heap {w w' : World} {g a b : Nat} (h : There w g a b) (he : w'.heap[g]? = w.heap[g]?) : There w' g a b := fun t h0 h1 => by
  obtain ⟨⟨v, e⟩, e'⟩ := h t h0 h1
  exact ⟨⟨v, (World.cell?_of_block (w := w) (a := ⟨g, t, none⟩) he).trans e⟩, (World.frozen?_of_block (w := w) (a := ⟨g, t, none⟩) he).trans e'⟩
theorem CopyE.heap {α : Type} [Cells α] {w w' : World} {g n : Nat} {l : List α} (h : CopyE w g n l) (he : w'.heap[g]? = w.heap[g]?) (hs : w.heap.size ≤ w'.heap.size) : CopyE w' g n l := ⟨h.lies.heap he hs, h.room.heap he⟩

set_option maxRecDepth 100000 in
set_option maxHeartbeats 8000000 in
theorem toSeat_any (s : SeatV) (A : Option Addr) (n cap : Nat) (l : List WordV) (w : World) (h : EltsO w w.heap.size A n l) (hn : n ≤ 1048576) :
    Calls Tryz.prog 36 #[s.val A n cap] w fun e w' => ∃ g, e = .returned (s.val (some ⟨g, 0, none⟩) n n) ∧ w.heap.size ≤ g ∧ CopyE w' g n l ∧ Below w.heap.size w w' := by
  obtain ⟨st, sh, sd, sp, ⟨⟨eu, es, eh, ea⟩, en⟩, ⟨⟨fu, fs, fh, fa⟩, fn⟩⟩ := s
  have HV : Hid (SeatV.val ⟨st, sh, sd, sp, ⟨⟨eu, es, eh, ea⟩, en⟩, ⟨⟨fu, fs, fh, fa⟩, fn⟩⟩ A n cap = .agg #[.int .i64 st, .int .i64 sh, .int .i64 sd, .int .i64 sp, .int .i64 eu, .int .i64 es, .int .i64 eh, .int .i64 ea, .int .i64 en, .int .i64 fu, .int .i64 fs, .int .i64 fh, .int .i64 fa, .int .i64 fn, .slice A n cap]) := rfl
  rw [HV.out]
  clear HV
  have cRe : Hid (∀ w' : World, Calls Tryz.prog 57 #[.agg #[.int .i64 eu, .int .i64 es, .int .i64 eh, .int .i64 ea, .int .i64 en]] w' fun e w'' => e = .returned (.agg #[.int .i64 eu, .int .i64 es, .int .i64 eh, .int .i64 ea, .int .i64 en]) ∧ Below w'.heap.size w' w'') := fun w' => by exact toRow_any ⟨⟨eu, es, eh, ea⟩, en⟩ w'
  have cRf : Hid (∀ w' : World, Calls Tryz.prog 57 #[.agg #[.int .i64 fu, .int .i64 fs, .int .i64 fh, .int .i64 fa, .int .i64 fn]] w' fun e w'' => e = .returned (.agg #[.int .i64 fu, .int .i64 fs, .int .i64 fh, .int .i64 fa, .int .i64 fn]) ∧ Below w'.heap.size w' w'') := fun w' => by exact toRow_any ⟨⟨fu, fs, fh, fa⟩, fn⟩ w'
  obtain ⟨W0, hW0⟩ : ∃ W, ((w.alloc (.cells #[.int .i64 st, .int .i64 sh, .int .i64 sd, .int .i64 sp, .int .i64 eu, .int .i64 es, .int .i64 eh, .int .i64 ea, .int .i64 en, .int .i64 fu, .int .i64 fs, .int .i64 fh, .int .i64 fa, .int .i64 fn, .slice A n cap] 61)).alloc (.cells #[.int .i64 0, .int .i64 0, .int .i64 0, .int .i64 0, .int .i64 0, .int .i64 0, .int .i64 0, .int .i64 0, .int .i64 0, .int .i64 0, .int .i64 0, .int .i64 0, .int .i64 0, .int .i64 0, .slice none 0 0] 68)).alloc (.cells #[.int .i64 0, .int .i64 0, .int .i64 0, .int .i64 0, .int .i64 0, .int .i64 0, .int .i64 0, .int .i64 0, .int .i64 0, .int .i64 0, .int .i64 0, .int .i64 0, .int .i64 0, .int .i64 0, .slice none 0 0] 68) = W := ⟨_, rfl⟩
  have K0 : Hid (Below w.heap.size w W0) := by rw [← hW0]; exact (((Below.refl _ w).alloc (Nat.le_refl _) _).alloc (by simp; try omega) _).alloc (by simp; try omega) _
  have Q0 : Hid (W0.heap[w.heap.size]? = some (.cells #[.int .i64 st, .int .i64 sh, .int .i64 sd, .int .i64 sp, .int .i64 eu, .int .i64 es, .int .i64 eh, .int .i64 ea, .int .i64 en, .int .i64 fu, .int .i64 fs, .int .i64 fh, .int .i64 fa, .int .i64 fn, .slice A n cap] 61)) := by rw [← hW0]; exact heap3a w _ _ _
  have R0 : Hid (W0.heap[w.heap.size + 1]? = some (.cells #[.int .i64 0, .int .i64 0, .int .i64 0, .int .i64 0, .int .i64 0, .int .i64 0, .int .i64 0, .int .i64 0, .int .i64 0, .int .i64 0, .int .i64 0, .int .i64 0, .int .i64 0, .int .i64 0, .slice none 0 0] 68)) := by rw [← hW0]; exact heap3b w _ _ _
  have O0 : Hid (W0.heap[w.heap.size + 1 + 1]? = some (.cells #[.int .i64 0, .int .i64 0, .int .i64 0, .int .i64 0, .int .i64 0, .int .i64 0, .int .i64 0, .int .i64 0, .int .i64 0, .int .i64 0, .int .i64 0, .int .i64 0, .int .i64 0, .int .i64 0, .slice none 0 0] 68)) := by rw [← hW0]; exact heap3c w _ _ _
  have E0 : Hid (EltsO W0 w.heap.size A n l) := Lib.hid (h.below K0.out)
  clear h
  go_enter Tryz.func36, Tryz.ntmps36
  obtain ⟨⟨a0, a1, a2, a3, a4, a5, a6, a7, a8, a9, a10, a11, a12, a13, a14⟩, _⟩ := blk15 Q0.out
  obtain ⟨⟨b0, b1, b2, b3, b4, b5, b6, b7, b8, b9, b10, b11, b12, b13, b14⟩, bz0, bz1, bz2, bz3, bz4, bz5, bz6, bz7, bz8, bz9, bz10, bz11, bz12, bz13, bz14⟩ := blk15 O0.out
  obtain ⟨S1, qS1⟩ : ∃ W, setAll W0 (w.heap.size + 1 + 1) 0 [.int .i64 st, .int .i64 sh, .int .i64 sd, .int .i64 sp] = W := ⟨_, rfl⟩
  have hS1 : ((((W0.setCell ⟨w.heap.size + 1 + 1, 0, none⟩ (.int .i64 st)).setCell ⟨w.heap.size + 1 + 1, 1, none⟩ (.int .i64 sh)).setCell ⟨w.heap.size + 1 + 1, 2, none⟩ (.int .i64 sd)).setCell ⟨w.heap.size + 1 + 1, 3, none⟩ (.int .i64 sp)) = S1 := qS1
  have Q1 : Hid (S1.heap[w.heap.size]? = some (.cells #[.int .i64 st, .int .i64 sh, .int .i64 sd, .int .i64 sp, .int .i64 eu, .int .i64 es, .int .i64 eh, .int .i64 ea, .int .i64 en, .int .i64 fu, .int .i64 fs, .int .i64 fh, .int .i64 fa, .int .i64 fn, .slice A n cap] 61)) := by rw [← qS1]; exact setAll_away (by omega) _ _ Q0.out
  have R1 : Hid (S1.heap[w.heap.size + 1]? = some (.cells #[.int .i64 0, .int .i64 0, .int .i64 0, .int .i64 0, .int .i64 0, .int .i64 0, .int .i64 0, .int .i64 0, .int .i64 0, .int .i64 0, .int .i64 0, .int .i64 0, .int .i64 0, .int .i64 0, .slice none 0 0] 68)) := by rw [← qS1]; exact setAll_away (by omega) _ _ R0.out
  have O1 : Hid (S1.heap[w.heap.size + 1 + 1]? = some (.cells #[.int .i64 st, .int .i64 sh, .int .i64 sd, .int .i64 sp, .int .i64 0, .int .i64 0, .int .i64 0, .int .i64 0, .int .i64 0, .int .i64 0, .int .i64 0, .int .i64 0, .int .i64 0, .int .i64 0, .slice none 0 0] 68)) := by
    rw [← qS1]
    refine (setAll_blk (w := W0) (g := (w.heap.size + 1 + 1)) [.int .i64 st, .int .i64 sh, .int .i64 sd, .int .i64 sp] 0 O0.out).trans ?_
    refine congrArg (fun z => some (Obj.cells z 68 (0, 0))) (Array.toList_inj.1 ?_)
    rw [overA_toList _ _ _ (by simp)]
    rfl
  have K1 : Hid (Below w.heap.size w S1) := by rw [← qS1]; exact setAll_below (g := (w.heap.size + 1 + 1)) (by omega) [.int .i64 st, .int .i64 sh, .int .i64 sd, .int .i64 sp] 0 K0.out
  have zS1 : W0.heap.size = S1.heap.size := by rw [← qS1]; exact (setAll_size [.int .i64 st, .int .i64 sh, .int .i64 sd, .int .i64 sp] 0 _).symm
  have E1 := Lib.hid (E0.out.below (show Below w.heap.size W0 S1 by rw [← qS1]; exact setAll_below (g := (w.heap.size + 1 + 1)) (by omega) [.int .i64 st, .int .i64 sh, .int .i64 sd, .int .i64 sp] 0 (Below.refl _ _)))
  clear qS1 Q0 R0 O0 K0 E0
  obtain ⟨⟨c0, c1, c2, c3, c4, c5, c6, c7, c8, c9, c10, c11, c12, c13, c14⟩, _⟩ := blk15 Q1.out
  go_wp2_with fail
  clear a0 a1 a2 a3 a4 a5 a6 a7 a8 a9 a10 a11 a12 a13 a14
  clear b0 b1 b2 b3 b4 b5 b6 b7 b8 b9 b10 b11 b12 b13 b14 bz0 bz1 bz2 bz3 bz4 bz5 bz6 bz7 bz8 bz9 bz10 bz11 bz12 bz13 bz14
  clear c0 c1 c2 c3 c4 c5 c6 c7 c8 c9 c10 c11 c12 c13 c14
  clear hW0 hS1
  refine (cRe.out _).mono ?_
  rintro e w2 ⟨rfl, hb⟩
  have Q2 := Lib.hid (blk_on hb Q1.out)
  have R2 := Lib.hid (blk_on hb R1.out)
  have O2 := Lib.hid (blk_on hb O1.out)
  have E2 := Lib.hid (E1.out.below (hb.mono K1.out.size))
  have K2 := Lib.hid (K1.out.trans (hb.mono K1.out.size))
  clear hb Q1 R1 O1 K1 E1
  obtain ⟨⟨a0, a1, a2, a3, a4, a5, a6, a7, a8, a9, a10, a11, a12, a13, a14⟩, _⟩ := blk15 Q2.out
  obtain ⟨⟨b0, b1, b2, b3, b4, b5, b6, b7, b8, b9, b10, b11, b12, b13, b14⟩, bz0, bz1, bz2, bz3, bz4, bz5, bz6, bz7, bz8, bz9, bz10, bz11, bz12, bz13, bz14⟩ := blk15 O2.out
  obtain ⟨S3, qS3⟩ : ∃ W, setAll w2 (w.heap.size + 1 + 1) 4 [.int .i64 eu, .int .i64 es, .int .i64 eh, .int .i64 ea, .int .i64 en] = W := ⟨_, rfl⟩
  have hS3 : (((((w2.setCell ⟨w.heap.size + 1 + 1, 4, none⟩ (.int .i64 eu)).setCell ⟨w.heap.size + 1 + 1, 5, none⟩ (.int .i64 es)).setCell ⟨w.heap.size + 1 + 1, 6, none⟩ (.int .i64 eh)).setCell ⟨w.heap.size + 1 + 1, 7, none⟩ (.int .i64 ea)).setCell ⟨w.heap.size + 1 + 1, 8, none⟩ (.int .i64 en)) = S3 := qS3
  have Q3 : Hid (S3.heap[w.heap.size]? = some (.cells #[.int .i64 st, .int .i64 sh, .int .i64 sd, .int .i64 sp, .int .i64 eu, .int .i64 es, .int .i64 eh, .int .i64 ea, .int .i64 en, .int .i64 fu, .int .i64 fs, .int .i64 fh, .int .i64 fa, .int .i64 fn, .slice A n cap] 61)) := by rw [← qS3]; exact setAll_away (by omega) _ _ Q2.out
  have R3 : Hid (S3.heap[w.heap.size + 1]? = some (.cells #[.int .i64 0, .int .i64 0, .int .i64 0, .int .i64 0, .int .i64 0, .int .i64 0, .int .i64 0, .int .i64 0, .int .i64 0, .int .i64 0, .int .i64 0, .int .i64 0, .int .i64 0, .int .i64 0, .slice none 0 0] 68)) := by rw [← qS3]; exact setAll_away (by omega) _ _ R2.out
  have O3 : Hid (S3.heap[w.heap.size + 1 + 1]? = some (.cells #[.int .i64 st, .int .i64 sh, .int .i64 sd, .int .i64 sp, .int .i64 eu, .int .i64 es, .int .i64 eh, .int .i64 ea, .int .i64 en, .int .i64 0, .int .i64 0, .int .i64 0, .int .i64 0, .int .i64 0, .slice none 0 0] 68)) := by
    rw [← qS3]
    refine (setAll_blk (w := w2) (g := (w.heap.size + 1 + 1)) [.int .i64 eu, .int .i64 es, .int .i64 eh, .int .i64 ea, .int .i64 en] 4 O2.out).trans ?_
    refine congrArg (fun z => some (Obj.cells z 68 (0, 0))) (Array.toList_inj.1 ?_)
    rw [overA_toList _ _ _ (by simp)]
    rfl
  have K3 : Hid (Below w.heap.size w S3) := by rw [← qS3]; exact setAll_below (g := (w.heap.size + 1 + 1)) (by omega) [.int .i64 eu, .int .i64 es, .int .i64 eh, .int .i64 ea, .int .i64 en] 4 K2.out
  have zS3 : w2.heap.size = S3.heap.size := by rw [← qS3]; exact (setAll_size [.int .i64 eu, .int .i64 es, .int .i64 eh, .int .i64 ea, .int .i64 en] 4 _).symm
  have E3 := Lib.hid (E2.out.below (show Below w.heap.size w2 S3 by rw [← qS3]; exact setAll_below (g := (w.heap.size + 1 + 1)) (by omega) [.int .i64 eu, .int .i64 es, .int .i64 eh, .int .i64 ea, .int .i64 en] 4 (Below.refl _ _)))
  clear qS3 Q2 R2 O2 K2 E2
  obtain ⟨⟨c0, c1, c2, c3, c4, c5, c6, c7, c8, c9, c10, c11, c12, c13, c14⟩, _⟩ := blk15 Q3.out
  go_wp2_with fail
  clear a0 a1 a2 a3 a4 a5 a6 a7 a8 a9 a10 a11 a12 a13 a14
  clear b0 b1 b2 b3 b4 b5 b6 b7 b8 b9 b10 b11 b12 b13 b14 bz0 bz1 bz2 bz3 bz4 bz5 bz6 bz7 bz8 bz9 bz10 bz11 bz12 bz13 bz14
  clear c0 c1 c2 c3 c4 c5 c6 c7 c8 c9 c10 c11 c12 c13 c14
  clear hS3
  refine (cRf.out _).mono ?_
  rintro e w4 ⟨rfl, hb⟩
  have Q4 := Lib.hid (blk_on hb Q3.out)
  have R4 := Lib.hid (blk_on hb R3.out)
  have O4 := Lib.hid (blk_on hb O3.out)
  have E4 := Lib.hid (E3.out.below (hb.mono K3.out.size))
  have K4 := Lib.hid (K3.out.trans (hb.mono K3.out.size))
  clear hb Q3 R3 O3 K3 E3
  obtain ⟨⟨a0, a1, a2, a3, a4, a5, a6, a7, a8, a9, a10, a11, a12, a13, a14⟩, _⟩ := blk15 Q4.out
  obtain ⟨⟨b0, b1, b2, b3, b4, b5, b6, b7, b8, b9, b10, b11, b12, b13, b14⟩, bz0, bz1, bz2, bz3, bz4, bz5, bz6, bz7, bz8, bz9, bz10, bz11, bz12, bz13, bz14⟩ := blk15 O4.out
  obtain ⟨S5, qS5⟩ : ∃ W, setAll w4 (w.heap.size + 1 + 1) 9 [.int .i64 fu, .int .i64 fs, .int .i64 fh, .int .i64 fa, .int .i64 fn] = W := ⟨_, rfl⟩
  have hS5 : (((((w4.setCell ⟨w.heap.size + 1 + 1, 9, none⟩ (.int .i64 fu)).setCell ⟨w.heap.size + 1 + 1, 10, none⟩ (.int .i64 fs)).setCell ⟨w.heap.size + 1 + 1, 11, none⟩ (.int .i64 fh)).setCell ⟨w.heap.size + 1 + 1, 12, none⟩ (.int .i64 fa)).setCell ⟨w.heap.size + 1 + 1, 13, none⟩ (.int .i64 fn)) = S5 := qS5
  have Q5 : Hid (S5.heap[w.heap.size]? = some (.cells #[.int .i64 st, .int .i64 sh, .int .i64 sd, .int .i64 sp, .int .i64 eu, .int .i64 es, .int .i64 eh, .int .i64 ea, .int .i64 en, .int .i64 fu, .int .i64 fs, .int .i64 fh, .int .i64 fa, .int .i64 fn, .slice A n cap] 61)) := by rw [← qS5]; exact setAll_away (by omega) _ _ Q4.out
  have R5 : Hid (S5.heap[w.heap.size + 1]? = some (.cells #[.int .i64 0, .int .i64 0, .int .i64 0, .int .i64 0, .int .i64 0, .int .i64 0, .int .i64 0, .int .i64 0, .int .i64 0, .int .i64 0, .int .i64 0, .int .i64 0, .int .i64 0, .int .i64 0, .slice none 0 0] 68)) := by rw [← qS5]; exact setAll_away (by omega) _ _ R4.out
  have O5 : Hid (S5.heap[w.heap.size + 1 + 1]? = some (.cells #[.int .i64 st, .int .i64 sh, .int .i64 sd, .int .i64 sp, .int .i64 eu, .int .i64 es, .int .i64 eh, .int .i64 ea, .int .i64 en, .int .i64 fu, .int .i64 fs, .int .i64 fh, .int .i64 fa, .int .i64 fn, .slice none 0 0] 68)) := by
    rw [← qS5]
    refine (setAll_blk (w := w4) (g := (w.heap.size + 1 + 1)) [.int .i64 fu, .int .i64 fs, .int .i64 fh, .int .i64 fa, .int .i64 fn] 9 O4.out).trans ?_
    refine congrArg (fun z => some (Obj.cells z 68 (0, 0))) (Array.toList_inj.1 ?_)
    rw [overA_toList _ _ _ (by simp)]
    rfl
  have K5 : Hid (Below w.heap.size w S5) := by rw [← qS5]; exact setAll_below (g := (w.heap.size + 1 + 1)) (by omega) [.int .i64 fu, .int .i64 fs, .int .i64 fh, .int .i64 fa, .int .i64 fn] 9 K4.out
  have zS5 : w4.heap.size = S5.heap.size := by rw [← qS5]; exact (setAll_size [.int .i64 fu, .int .i64 fs, .int .i64 fh, .int .i64 fa, .int .i64 fn] 9 _).symm
  have E5 := Lib.hid (E4.out.below (show Below w.heap.size w4 S5 by rw [← qS5]; exact setAll_below (g := (w.heap.size + 1 + 1)) (by omega) [.int .i64 fu, .int .i64 fs, .int .i64 fh, .int .i64 fa, .int .i64 fn] 9 (Below.refl _ _)))
  clear qS5 Q4 R4 O4 K4 E4
  obtain ⟨⟨c0, c1, c2, c3, c4, c5, c6, c7, c8, c9, c10, c11, c12, c13, c14⟩, _⟩ := blk15 Q5.out
  go_wp2_with fail
  clear a0 a1 a2 a3 a4 a5 a6 a7 a8 a9 a10 a11 a12 a13 a14
  clear b0 b1 b2 b3 b4 b5 b6 b7 b8 b9 b10 b11 b12 b13 b14 bz0 bz1 bz2 bz3 bz4 bz5 bz6 bz7 bz8 bz9 bz10 bz11 bz12 bz13 bz14
  clear c0 c1 c2 c3 c4 c5 c6 c7 c8 c9 c10 c11 c12 c13 c14
  clear hS5
  have lo : w.heap.size + 1 + 1 < S5.heap.size := blk_in O5.out
  refine (toWordS_any A n cap l _ (E5.out.mono K5.out.size) hn).mono ?_
  rintro e w6 ⟨rfl, hc⟩
  have hb := hc.bel
  have Z := Lib.hid hc.at
  have lz : S5.heap.size < w6.heap.size := hc.lt
  have lk := K5.out.size
  clear hc
  have Q6 := Lib.hid (blk_on hb Q5.out)
  have R6 := Lib.hid (blk_on hb R5.out)
  have O6 := Lib.hid (blk_on hb O5.out)
  have E6 := Lib.hid (E5.out.below (hb.mono K5.out.size))
  have K6 := Lib.hid (K5.out.trans (hb.mono K5.out.size))
  clear hb Q5 R5 O5 K5 E5
  clear E6
  obtain ⟨gz, hgz⟩ : ∃ x, S5.heap.size = x := ⟨_, rfl⟩
  rw [hgz] at Z lz lk lo ⊢
  clear hgz
  obtain ⟨⟨b0, b1, b2, b3, b4, b5, b6, b7, b8, b9, b10, b11, b12, b13, b14⟩, bz0, bz1, bz2, bz3, bz4, bz5, bz6, bz7, bz8, bz9, bz10, bz11, bz12, bz13, bz14⟩ := blk15 O6.out
  obtain ⟨S7, qS7⟩ : ∃ W, setAll w6 (w.heap.size + 1 + 1) 14 [.slice (some ⟨gz, 0, none⟩) n n] = W := ⟨_, rfl⟩
  have hS7 : (w6.setCell ⟨w.heap.size + 1 + 1, 14, none⟩ (.slice (some ⟨gz, 0, none⟩) n n)) = S7 := qS7
  have Q7 : Hid (S7.heap[w.heap.size]? = some (.cells #[.int .i64 st, .int .i64 sh, .int .i64 sd, .int .i64 sp, .int .i64 eu, .int .i64 es, .int .i64 eh, .int .i64 ea, .int .i64 en, .int .i64 fu, .int .i64 fs, .int .i64 fh, .int .i64 fa, .int .i64 fn, .slice A n cap] 61)) := by rw [← qS7]; exact setAll_away (by omega) _ _ Q6.out
  have R7 : Hid (S7.heap[w.heap.size + 1]? = some (.cells #[.int .i64 0, .int .i64 0, .int .i64 0, .int .i64 0, .int .i64 0, .int .i64 0, .int .i64 0, .int .i64 0, .int .i64 0, .int .i64 0, .int .i64 0, .int .i64 0, .int .i64 0, .int .i64 0, .slice none 0 0] 68)) := by rw [← qS7]; exact setAll_away (by omega) _ _ R6.out
  have O7 : Hid (S7.heap[w.heap.size + 1 + 1]? = some (.cells #[.int .i64 st, .int .i64 sh, .int .i64 sd, .int .i64 sp, .int .i64 eu, .int .i64 es, .int .i64 eh, .int .i64 ea, .int .i64 en, .int .i64 fu, .int .i64 fs, .int .i64 fh, .int .i64 fa, .int .i64 fn, .slice (some ⟨gz, 0, none⟩) n n] 68)) := by
    rw [← qS7]
    refine (setAll_blk (w := w6) (g := (w.heap.size + 1 + 1)) [.slice (some ⟨gz, 0, none⟩) n n] 14 O6.out).trans ?_
    refine congrArg (fun z => some (Obj.cells z 68 (0, 0))) (Array.toList_inj.1 ?_)
    rw [overA_toList _ _ _ (by simp)]
    rfl
  have K7 : Hid (Below w.heap.size w S7) := by rw [← qS7]; exact setAll_below (g := (w.heap.size + 1 + 1)) (by omega) [.slice (some ⟨gz, 0, none⟩) n n] 14 K6.out
  have zS7 : w6.heap.size = S7.heap.size := by rw [← qS7]; exact (setAll_size [.slice (some ⟨gz, 0, none⟩) n n] 14 _).symm
  clear qS7 Q6 R6 O6 K6
  have Z2 : Hid (CopyE S7 gz n l) := by rw [← hS7]; exact Z.out.heap (setAll_off (g := w.heap.size + 1 + 1) (by omega) [.slice (some ⟨gz, 0, none⟩) n n] 14) (Nat.le_of_eq (by rw [hS7]; exact zS7))
  have OF := O7
  have RF := R7
  go_wp2_with (first | (refine wpList_store_row rfl 68 _ _ rfl (w.heap.size + 1) #[.int .i64 st, .int .i64 sh, .int .i64 sd, .int .i64 sp, .int .i64 eu, .int .i64 es, .int .i64 eh, .int .i64 ea, .int .i64 en, .int .i64 fu, .int .i64 fs, .int .i64 fh, .int .i64 fa, .int .i64 fn, .slice (some ⟨gz, 0, none⟩) n n] rfl rfl 68 _ R7.out (by kernel_rfl) rfl (by simp [Value.oneCell']) ?_) | (refine wpList_load_row rfl 68 _ rfl (w.heap.size + 1 + 1) rfl 68 _ (0, 0) _ O7.out Tryz.underlying68 rfl (by kernel_rfl) ?_))
  exact row_ret (r := w.heap.size + 1) (cs := #[.int .i64 st, .int .i64 sh, .int .i64 sd, .int .i64 sp, .int .i64 eu, .int .i64 es, .int .i64 eh, .int .i64 ea, .int .i64 en, .int .i64 fu, .int .i64 fs, .int .i64 fh, .int .i64 fa, .int .i64 fn, .slice (some ⟨gz, 0, none⟩) n n]) rfl rfl (setRow_heap _ _ _ _ _ _ RF.out) Tryz.underlying68 rfl (by kernel_rfl) rfl ⟨gz, rfl, by omega, Z2.out.heap (setRow_other _ _ _ _ (by omega)) (Nat.le_of_eq (size_setRow _ _ _).symm), below_setRow K7.out (by omega) _⟩

set_option maxHeartbeats 4000000 in
theorem szSeat_any (s : SeatV) (A : Option Addr) (n cap : Nat) (l : List WordV) (left : Int) (w : World) (h' : EltsO w w.heap.size A n l) (hn : n ≤ 9223372036854775807) (hs : ∀ t ∈ l, t.t.size ≤ 9223372036854775807) (h0 : 0 ≤ left) (h1 : left ≤ 1048576) :
    Calls Tryz.prog 29 #[s.val A n cap, .int .i64 left] w (SzOutE n w) := by
  have h := Lib.hid h'
  clear h'
  obtain ⟨st, sh, sd, sp, ⟨⟨eu, es, eh, ea⟩, en⟩, ⟨⟨fu, fs, fh, fa⟩, fn⟩⟩ := s
  have HV : Hid (SeatV.val ⟨st, sh, sd, sp, ⟨⟨eu, es, eh, ea⟩, en⟩, ⟨⟨fu, fs, fh, fa⟩, fn⟩⟩ A n cap = .agg #[.int .i64 st, .int .i64 sh, .int .i64 sd, .int .i64 sp, .int .i64 eu, .int .i64 es, .int .i64 eh, .int .i64 ea, .int .i64 en, .int .i64 fu, .int .i64 fs, .int .i64 fh, .int .i64 fa, .int .i64 fn, .slice A n cap]) := rfl
  rw [HV.out]
  clear HV
  obtain ⟨W0, hW0⟩ : ∃ W, w.alloc (.cells #[.int .i64 st, .int .i64 sh, .int .i64 sd, .int .i64 sp, .int .i64 eu, .int .i64 es, .int .i64 eh, .int .i64 ea, .int .i64 en, .int .i64 fu, .int .i64 fs, .int .i64 fh, .int .i64 fa, .int .i64 fn, .slice A n cap] 61) = W := ⟨_, rfl⟩
  have K0 : Hid (Below w.heap.size w W0) := by rw [← hW0]; exact (Below.refl _ w).alloc (Nat.le_refl _) _
  have Q0 : Hid (W0.heap[w.heap.size]? = some (.cells #[.int .i64 st, .int .i64 sh, .int .i64 sd, .int .i64 sp, .int .i64 eu, .int .i64 es, .int .i64 eh, .int .i64 ea, .int .i64 en, .int .i64 fu, .int .i64 fs, .int .i64 fh, .int .i64 fa, .int .i64 fn, .slice A n cap] 61)) := by rw [← hW0]; exact heap1 w _
  obtain ⟨⟨a0, a1, a2, a3, a4, a5, a6, a7, a8, a9, a10, a11, a12, a13, a14⟩, _⟩ := blk15 Q0.out
  go_enter Tryz.func29, Tryz.ntmps29
  go_wp2_with fail
  clear a0 a1 a2 a3 a4 a5 a6 a7 a8 a9 a10 a11 a12 a13 a14
  clear hW0
  refine (szWordS_any A n cap l left _ (h.out.below K0.out |>.mono K0.out.size) hn hs h0 h1).mono ?_
  rintro e w1 ⟨L, rfl, hL1, hL2, hb⟩
  have Q1 := Lib.hid (blk_on hb Q0.out)
  have K1 := Lib.hid (K0.out.trans (hb.mono K0.out.size))
  clear hb Q0 K0
  by_cases hL : L < 0
  ·
    go_wp2_with fail
    go_ret
    first | exact ⟨-1, rfl, by omega, fun h => absurd h (by omega), K1.out⟩ | exact ⟨⟨-1, rfl, by omega, fun h => absurd h (by omega)⟩, K1.out⟩
  ·
    go_wp2_with fail
    go_ret
    first | exact ⟨L, rfl, hL1, hL2, K1.out⟩ | exact ⟨⟨L, rfl, hL1, hL2⟩, K1.out⟩

set_option maxHeartbeats 8000000 in
theorem eqSeat_same (s : SeatV) (A B : Option Addr) (n cap cb : Nat) (l : List WordV) (w : World) (hA' : EltsO w w.heap.size A n l) (hB' : EltsO w w.heap.size B n l) (hn : n ≤ 1048576) :
    Calls Tryz.prog 45 #[s.val A n cap, s.val B n cb] w fun e w' => e = .returned (.bool true) ∧ Below w.heap.size w w' := by
  have hA := Lib.hid hA'
  have hB := Lib.hid hB'
  clear hA' hB'
  obtain ⟨st, sh, sd, sp, ⟨⟨eu, es, eh, ea⟩, en⟩, ⟨⟨fu, fs, fh, fa⟩, fn⟩⟩ := s
  have HV1 : Hid (SeatV.val ⟨st, sh, sd, sp, ⟨⟨eu, es, eh, ea⟩, en⟩, ⟨⟨fu, fs, fh, fa⟩, fn⟩⟩ A n cap = .agg #[.int .i64 st, .int .i64 sh, .int .i64 sd, .int .i64 sp, .int .i64 eu, .int .i64 es, .int .i64 eh, .int .i64 ea, .int .i64 en, .int .i64 fu, .int .i64 fs, .int .i64 fh, .int .i64 fa, .int .i64 fn, .slice A n cap]) := rfl
  have HV2 : Hid (SeatV.val ⟨st, sh, sd, sp, ⟨⟨eu, es, eh, ea⟩, en⟩, ⟨⟨fu, fs, fh, fa⟩, fn⟩⟩ B n cb = .agg #[.int .i64 st, .int .i64 sh, .int .i64 sd, .int .i64 sp, .int .i64 eu, .int .i64 es, .int .i64 eh, .int .i64 ea, .int .i64 en, .int .i64 fu, .int .i64 fs, .int .i64 fh, .int .i64 fa, .int .i64 fn, .slice B n cb]) := rfl
  rw [HV1.out, HV2.out]
  clear HV1 HV2
  have cRe : Hid (∀ w' : World, Calls Tryz.prog 69 #[.agg #[.int .i64 eu, .int .i64 es, .int .i64 eh, .int .i64 ea, .int .i64 en], .agg #[.int .i64 eu, .int .i64 es, .int .i64 eh, .int .i64 ea, .int .i64 en]] w' fun e w'' => e = .returned (.bool true) ∧ Below w'.heap.size w' w'') := fun w' => by exact eqRow_same ⟨⟨eu, es, eh, ea⟩, en⟩ w'
  have cRf : Hid (∀ w' : World, Calls Tryz.prog 69 #[.agg #[.int .i64 fu, .int .i64 fs, .int .i64 fh, .int .i64 fa, .int .i64 fn], .agg #[.int .i64 fu, .int .i64 fs, .int .i64 fh, .int .i64 fa, .int .i64 fn]] w' fun e w'' => e = .returned (.bool true) ∧ Below w'.heap.size w' w'') := fun w' => by exact eqRow_same ⟨⟨fu, fs, fh, fa⟩, fn⟩ w'
  obtain ⟨W0, hW0⟩ : ∃ W, (w.alloc (.cells #[.int .i64 st, .int .i64 sh, .int .i64 sd, .int .i64 sp, .int .i64 eu, .int .i64 es, .int .i64 eh, .int .i64 ea, .int .i64 en, .int .i64 fu, .int .i64 fs, .int .i64 fh, .int .i64 fa, .int .i64 fn, .slice A n cap] 68)).alloc (.cells #[.int .i64 st, .int .i64 sh, .int .i64 sd, .int .i64 sp, .int .i64 eu, .int .i64 es, .int .i64 eh, .int .i64 ea, .int .i64 en, .int .i64 fu, .int .i64 fs, .int .i64 fh, .int .i64 fa, .int .i64 fn, .slice B n cb] 68) = W := ⟨_, rfl⟩
  have K0 : Hid (Below w.heap.size w W0) := by rw [← hW0]; exact ((Below.refl _ w).alloc (Nat.le_refl _) _).alloc (by simp; try omega) _
  have P0 : Hid (W0.heap[w.heap.size]? = some (.cells #[.int .i64 st, .int .i64 sh, .int .i64 sd, .int .i64 sp, .int .i64 eu, .int .i64 es, .int .i64 eh, .int .i64 ea, .int .i64 en, .int .i64 fu, .int .i64 fs, .int .i64 fh, .int .i64 fa, .int .i64 fn, .slice A n cap] 68)) := by rw [← hW0]; exact heap2a w _ _
  have Q0 : Hid (W0.heap[w.heap.size + 1]? = some (.cells #[.int .i64 st, .int .i64 sh, .int .i64 sd, .int .i64 sp, .int .i64 eu, .int .i64 es, .int .i64 eh, .int .i64 ea, .int .i64 en, .int .i64 fu, .int .i64 fs, .int .i64 fh, .int .i64 fa, .int .i64 fn, .slice B n cb] 68)) := by rw [← hW0]; exact heap2b w _ _
  obtain ⟨⟨a0, a1, a2, a3, a4, a5, a6, a7, a8, a9, a10, a11, a12, a13, a14⟩, _⟩ := blk15 P0.out
  obtain ⟨⟨b0, b1, b2, b3, b4, b5, b6, b7, b8, b9, b10, b11, b12, b13, b14⟩, _⟩ := blk15 Q0.out
  go_enter Tryz.func45, Tryz.ntmps45
  go_wp2_with fail
  clear a0 a1 a2 a3 a4 a5 a6 a7 a8 a9 a10 a11 a12 a13 a14
  clear b0 b1 b2 b3 b4 b5 b6 b7 b8 b9 b10 b11 b12 b13 b14
  clear hW0
  refine (cRe.out _).mono ?_
  rintro e w1 ⟨rfl, hb⟩
  have P1 := Lib.hid (blk_on hb P0.out)
  have Q1 := Lib.hid (blk_on hb Q0.out)
  have K1 := Lib.hid (K0.out.trans (hb.mono K0.out.size))
  clear hb P0 Q0 K0
  obtain ⟨⟨a0, a1, a2, a3, a4, a5, a6, a7, a8, a9, a10, a11, a12, a13, a14⟩, _⟩ := blk15 P1.out
  obtain ⟨⟨b0, b1, b2, b3, b4, b5, b6, b7, b8, b9, b10, b11, b12, b13, b14⟩, _⟩ := blk15 Q1.out
  go_wp2_with fail
  clear a0 a1 a2 a3 a4 a5 a6 a7 a8 a9 a10 a11 a12 a13 a14
  clear b0 b1 b2 b3 b4 b5 b6 b7 b8 b9 b10 b11 b12 b13 b14
  refine (cRf.out _).mono ?_
  rintro e w2 ⟨rfl, hb⟩
  have P2 := Lib.hid (blk_on hb P1.out)
  have Q2 := Lib.hid (blk_on hb Q1.out)
  have K2 := Lib.hid (K1.out.trans (hb.mono K1.out.size))
  clear hb P1 Q1 K1
  obtain ⟨⟨a0, a1, a2, a3, a4, a5, a6, a7, a8, a9, a10, a11, a12, a13, a14⟩, _⟩ := blk15 P2.out
  obtain ⟨⟨b0, b1, b2, b3, b4, b5, b6, b7, b8, b9, b10, b11, b12, b13, b14⟩, _⟩ := blk15 Q2.out
  go_wp2_with fail
  clear a0 a1 a2 a3 a4 a5 a6 a7 a8 a9 a10 a11 a12 a13 a14
  clear b0 b1 b2 b3 b4 b5 b6 b7 b8 b9 b10 b11 b12 b13 b14
  refine (eqWordS_same A B n cap cb l _ ((hA.out.below K2.out).mono K2.out.size) ((hB.out.below K2.out).mono K2.out.size) hn).mono ?_
  rintro e w3 ⟨rfl, hb⟩
  have P3 := Lib.hid (blk_on hb P2.out)
  have Q3 := Lib.hid (blk_on hb Q2.out)
  have K3 := Lib.hid (K2.out.trans (hb.mono K2.out.size))
  clear hb P2 Q2 K2
  go_wp2
  go_ret
  exact ⟨rfl, K3.out⟩

end Go.Proofs.YtioogmeghmeelaaGreat.Tx

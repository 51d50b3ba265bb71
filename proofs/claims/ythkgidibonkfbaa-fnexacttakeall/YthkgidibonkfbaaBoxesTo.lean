/-
  What toBoxS and szBoxS of the laws do: a list of boxes is copied into new memory; it is counted. Conditions: at most 1048576 boxes; each text at most 2^63 - 1 bytes.
-/
import Derived.Laws.MakeOwn
import Derived.Test.YthkgidibonkfbaaBoxes
import Derived.Test.YthkgidibonkfbaaMarkBox
namespace Go.Proofs.Ythkgidibonkfbaa.Tx
open Go.RowKit

theorem There.setCell {w : World} {g a b k : Nat} (h : There w g a b) (u : Value) : There (w.setCell ⟨g, k, none⟩ u) g a b := fun t h0 h1 => by
  obtain ⟨⟨v, e⟩, e'⟩ := h t h0 h1
  refine ⟨?_, by rw [World.frozen?_setCell]; exact e'⟩
  by_cases hk : t = k
  · subst hk; exact ⟨u, World.cell?_setCell_same' _ _ _ (by rw [e]; rfl)⟩
  · exact ⟨v, by rw [World.cell?_setCell_other _ _ _ _ (fun x => hk (by have := congrArg Addr.off x; simp at this; omega))]; exact e⟩
theorem There.setAll {g a b : Nat} : ∀ (vs : List Value) (k : Nat) {w : World}, There w g a b → There (setAll w g k vs) g a b
  | [], _, _, h => h
  | v :: r, k, _, h => There.setAll r (k + 1) (h.setCell v)
theorem BoxAt.far {w : World} {g o k : Nat} {b : BoxV} {vs : List Value} (h : BoxAt w g o b) (hk : o + 7 ≤ k) : BoxAt (Tx.setAll w g k vs) g o b := by
  have f : ∀ r, r < 7 → (Tx.setAll w g k vs).cell? ⟨g, o + r, none⟩ = w.cell? ⟨g, o + r, none⟩ := fun r hr => setAll_far vs k (.inr (by show o + r < k; omega))
  exact ⟨(f 0 (by omega)).trans h.1, (f 1 (by omega)).trans h.2.1, (f 2 (by omega)).trans h.2.2.1, (f 3 (by omega)).trans h.2.2.2.1, (f 4 (by omega)).trans h.2.2.2.2.1, (f 5 (by omega)).trans h.2.2.2.2.2.1, (f 6 (by omega)).trans h.2.2.2.2.2.2⟩
theorem BoxAt.new {w : World} {g k c : Nat} (b : BoxV) (hT : There w g 0 c) (hk : k + 7 ≤ c) : BoxAt (Tx.setAll w g k b.cells) g k b := by
  have S := setAll_cell (g := g) b.cells k (w := w) (fun i hi => by
    have hi7 : i < 7 := hi
    obtain ⟨⟨v, e⟩, _⟩ := hT (k + i) (by omega) (by omega)
    rw [e]; rfl)
  exact ⟨S 0 _ rfl, S 1 _ rfl, S 2 _ rfl, S 3 _ rfl, S 4 _ rfl, S 5 _ rfl, S 6 _ rfl⟩

theorem infoBox : (Try.prog.info? 39).map (fun i => (i.zero, i.size)) = some (some (.agg BoxV.zero.cells.toArray), 7) ∧ ((Try.prog.info? 39).map (fun i => decide (i.bytes ≤ 100))) = some true := ⟨by kernel_rfl, by kernel_rfl⟩
theorem make_boxes (n : Nat) (hn : n ≤ 1048576) (w : World) : ∃ cs : Array Value, cs.size = n * 7 ∧ (Instr.makeSlice 31 (.int .i64 (n : Int)) (.int .i64 (n : Int))).run Try.prog w = .ok (.slice (some ⟨w.heap.size, 0, none⟩) n n) (w.alloc (.cells cs 39)) := by
  obtain ⟨i, hi⟩ := Option.isSome_iff_exists.1 (show (Try.prog.info? 39).isSome = true by kernel_rfl)
  have h1 := infoBox.1
  have h2 := infoBox.2
  rw [hi] at h1 h2
  simp only [Option.map_some, Option.some.injEq, Prod.mk.injEq, decide_eq_true_eq] at h1 h2
  have hb : (i.bytes : Int) * (n : Int) ≤ 100 * 1048576 := Int.mul_le_mul (by omega) (by omega) (by omega) (by omega)
  have := run_make (P := Try.prog) w 31 39 i _ Try.underlying31 hi h1.1 .i64 .i64 n n (by omega) (Int.le_refl _) (by omega) (by omega)
  rw [h1.2] at this
  refine ⟨_, ?_, by simpa using this⟩
  simp [size_madeCells]

/-- What toBoxS leaves. -/
structure CopiedB (w : World) (n : Nat) (bs : List BoxV) (w' : World) : Prop where
  has : ∀ j, j < n → BoxAt w' w.heap.size (j * 7) (bs[j]?.getD .zero)
  room : There w' w.heap.size 0 (n * 7)
  lt : w.heap.size < w'.heap.size
  bel : Below w.heap.size w w'

set_option maxRecDepth 100000 in
set_option maxHeartbeats 4000000 in
theorem toBoxS_any (A : Option Addr) (n cap : Nat) (bs : List BoxV) (w : World) (h : Bxs w w.heap.size A n bs) (hn : n ≤ 1048576) :
    Calls Try.prog 40 #[.slice A n cap] w fun e w' => e = .returned (.slice (some ⟨w.heap.size, 0, none⟩) n n) ∧ CopiedB w n bs w' := by
  have HC := Lib.hid h.2
  clear h
  obtain ⟨cs, hcs, hmk⟩ := make_boxes n hn w
  obtain ⟨W0, hW0⟩ : ∃ W, w.alloc (.cells cs 39) = W := ⟨_, rfl⟩
  rw [hW0] at hmk
  have T0 : Hid (There W0 w.heap.size 0 (n * 7)) := fun t _ ht => by
    rw [← hW0]
    refine ⟨⟨cs[t]'(by omega), ?_⟩, blk_frozen (heap1 w _) t⟩
    rw [blk_cell (heap1 w _)]; exact Array.getElem?_eq_getElem (by omega)
  have B0 : Hid (Below w.heap.size w W0) := hW0 ▸ (Below.refl _ w).alloc (Nat.le_refl _) _
  have L0 : w.heap.size < W0.heap.size := by rw [← hW0]; simp
  clear hW0 hcs
  go_enter Try.func40, Try.ntmps40
  go_wp2_with fail
  clear hmk
  go_loopw [4] (fun i wr => ∃ k : Nat, k ≤ n ∧ i = .int .i64 k ∧ Hid (∀ j, j < k → BoxAt wr w.heap.size (j * 7) (bs[j]?.getD .zero)) ∧ Hid (There wr w.heap.size 0 (n * 7)) ∧ w.heap.size < wr.heap.size ∧ Hid (Below w.heap.size w wr)) (fun i _ => n - (intOf i).toNat)
  case atStart => exact ⟨0, Nat.zero_le _, rfl, fun j hj => absurd hj (by omega), T0.out, L0, B0.out⟩
  case round =>
    obtain ⟨k, hk, rfl, hM, hT, hL, hB⟩ := hrel
    by_cases hlt : k < n
    · obtain ⟨b, off, rfl, hb, hc⟩ := HC.out (by omega)
      have g1 := (hc k hlt).below hb hB.out
      obtain ⟨⟨⟨xu, xs, xh, xa⟩, xn, xt, xp⟩, hx⟩ : ∃ x, bs[k]?.getD BoxV.zero = x := ⟨_, rfl⟩
      rw [hx] at g1
      have HX := Lib.hid hx
      obtain ⟨c0, c1, c2, c3, c4, c5, c6⟩ := g1
      dsimp only at c0 c1 c2 c3 c4 c5 c6
      have hk0 : (0 : Int) ≤ (k : Int) := by omega
      have hkn : (k : Int) < (n : Int) := by omega
      clear hx hc
      go_wp2_with fail
      refine (toBox_any ⟨⟨xu, xs, xh, xa⟩, xn, xt, xp⟩ _).mono ?_
      rintro e w1 ⟨rfl, b1⟩
      have HT1 := Lib.hid (hT.out.below hL b1)
      have HB1 := Lib.hid (hB.out.trans (b1.mono hB.out.size))
      have HM1 : Hid (∀ j, j < k → BoxAt w1 w.heap.size (j * 7) (bs[j]?.getD .zero)) := fun j hj => (hM.out j hj).below hL b1
      have hL1 : w.heap.size < w1.heap.size := Nat.lt_of_lt_of_le hL b1.size
      have HV : Hid (BoxV.val ⟨⟨xu, xs, xh, xa⟩, xn, xt, xp⟩ = .agg #[.int .i64 xu, .int .i64 xs, .int .i64 xh, .int .i64 xa, .int .i64 xn, .string xt, .bool xp]) := rfl
      rw [HV.out]
      clear b1 c0 c1 c2 c3 c4 c5 c6 hM hT hB
      obtain ⟨⟨v0, d0⟩, f0⟩ := HT1.out (k * 7) (by omega) (by omega)
      obtain ⟨⟨v1, d1⟩, f1⟩ := HT1.out (k * 7 + 1) (by omega) (by omega)
      obtain ⟨⟨v2, d2⟩, f2⟩ := HT1.out (k * 7 + 2) (by omega) (by omega)
      obtain ⟨⟨v3, d3⟩, f3⟩ := HT1.out (k * 7 + 3) (by omega) (by omega)
      obtain ⟨⟨v4, d4⟩, f4⟩ := HT1.out (k * 7 + 4) (by omega) (by omega)
      obtain ⟨⟨v5, d5⟩, f5⟩ := HT1.out (k * 7 + 5) (by omega) (by omega)
      obtain ⟨⟨v6, d6⟩, f6⟩ := HT1.out (k * 7 + 6) (by omega) (by omega)
      have HN1 : Hid (∀ j, j < k + 1 → BoxAt (Tx.setAll w1 w.heap.size (k * 7) (BoxV.cells ⟨⟨xu, xs, xh, xa⟩, xn, xt, xp⟩)) w.heap.size (j * 7) (bs[j]?.getD .zero)) := fun j hj => by
        by_cases e : j = k
        · subst e; rw [HX.out]; exact BoxAt.new _ HT1.out (by omega)
        · exact (HM1.out j (by omega)).far (by omega)
      have HN2 : Hid (There (Tx.setAll w1 w.heap.size (k * 7) (BoxV.cells ⟨⟨xu, xs, xh, xa⟩, xn, xt, xp⟩)) w.heap.size 0 (n * 7)) := There.setAll _ _ HT1.out
      have HN3 : Hid (Below w.heap.size w (Tx.setAll w1 w.heap.size (k * 7) (BoxV.cells ⟨⟨xu, xs, xh, xa⟩, xn, xt, xp⟩))) := setAll_below (Nat.le_refl _) _ _ HB1.out
      have HN4 : Hid (w.heap.size < (Tx.setAll w1 w.heap.size (k * 7) (BoxV.cells ⟨⟨xu, xs, xh, xa⟩, xn, xt, xp⟩)).heap.size) := HN2.out.lt (by omega)
      go_wp2
      go_roundw
      case rel => exact ⟨k + 1, by omega, by go_num, HN1.out, HN2.out, HN4.out, HN3.out⟩
      case measure => simp [intOf]; omega
    · obtain rfl : k = n := by omega
      have hlt' : ¬ (k : Int) < (k : Int) := by omega
      go_wp2
      go_ret
      exact ⟨rfl, hM.out, hT.out, hL, hB.out⟩

/-- What szBoxS answers: a number that is below 0 where there are too many. -/
def SzOut (n : Nat) (w : World) (e : Ending) (w' : World) : Prop := ∃ l : Int, e = .returned (.int .i64 l) ∧ (0 ≤ l → n ≤ 1048576) ∧ Below w.heap.size w w'
set_option maxHeartbeats 2000000 in
theorem szBoxS_any (A : Option Addr) (n cap : Nat) (bs : List BoxV) (w : World) (h : Bxs w w.heap.size A n bs) (hn : n ≤ 9223372036854775807) (hs : ∀ b ∈ bs, b.t.size ≤ 9223372036854775807) :
    Calls Try.prog 39 #[.slice A n cap, .int .i64 1048576] w (SzOut n w) := by
  have HC := Lib.hid h.2
  have HL := Lib.hid h.1
  have HS := Lib.hid hs
  clear h hs
  by_cases hl : (1048576 : Int) - (n : Int) < 0
  · go_enter Try.func39, Try.ntmps39
    go_wp2
    go_ret
    exact ⟨-1, rfl, fun h => absurd h (by omega), Below.refl _ _⟩
  · have hn1 : n ≤ 1048576 := by omega
    go_enter Try.func39, Try.ntmps39
    go_wp2
    go_loopw [1, 5] (fun l i wr => ∃ (k : Nat) (L : Int), k ≤ n ∧ i = .int .i64 k ∧ l = .int .i64 L ∧ 0 ≤ L ∧ L ≤ 1048576 ∧ Hid (Below w.heap.size w wr)) (fun _ i _ => n - (intOf i).toNat)
    case atStart => exact ⟨0, _, Nat.zero_le _, rfl, rfl, by omega, by omega, Below.refl _ _⟩
    case round =>
      obtain ⟨k, L, hk, rfl, rfl, hL0, hL1, hB⟩ := hrel
      by_cases hlt : k < n
      · obtain ⟨b, off, rfl, hb, hc⟩ := HC.out (by omega)
        have g1 := (hc k hlt).below hb hB.out
        have hk' : k < bs.length := by rw [HL.out]; exact hlt
        have hsz := HS.out (bs[k]) (List.getElem_mem _)
        have hx0 : bs[k]?.getD BoxV.zero = bs[k] := by rw [List.getElem?_eq_getElem hk']; rfl
        rw [hx0] at g1
        obtain ⟨⟨⟨xu, xs, xh, xa⟩, xn, xt, xp⟩, hx⟩ : ∃ x, bs[k] = x := ⟨_, rfl⟩
        rw [hx] at g1 hsz
        obtain ⟨c0, c1, c2, c3, c4, c5, c6⟩ := g1
        dsimp only at c0 c1 c2 c3 c4 c5 c6 hsz
        have hk0 : (0 : Int) ≤ (k : Int) := by omega
        have hkn : (k : Int) < (n : Int) := by omega
        clear hx hc hx0 hk'
        go_wp2_with fail
        refine (szBox_any ⟨⟨xu, xs, xh, xa⟩, xn, xt, xp⟩ hsz L hL0 (by omega) _).mono ?_
        rintro e w1 ⟨rfl, b1⟩
        have HB1 := Lib.hid (hB.out.trans (b1.mono hB.out.size))
        obtain ⟨M, hM⟩ : ∃ M, szLeft L xt.size = M := ⟨_, rfl⟩
        have hM1 : M ≤ 1048576 := by rw [← hM]; unfold szLeft; split <;> omega
        dsimp only
        rw [hM]
        clear b1 c0 c1 c2 c3 c4 c5 c6 hM
        by_cases hM0 : M < 0
        · go_wp2
          go_ret
          exact ⟨-1, rfl, fun h => absurd h (by omega), HB1.out⟩
        · go_wp2
          go_roundw
          case rel => exact ⟨k + 1, M, by omega, by go_num, rfl, by omega, hM1, HB1.out⟩
          case measure => simp [intOf]; omega
      · obtain rfl : k = n := by omega
        have hlt' : ¬ (k : Int) < (k : Int) := by omega
        go_wp2
        go_ret
        exact ⟨L, rfl, fun _ => by omega, hB.out⟩

end Go.Proofs.Ythkgidibonkfbaa.Tx

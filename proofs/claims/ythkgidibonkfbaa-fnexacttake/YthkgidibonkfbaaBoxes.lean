/-
  A list of boxes that reads as bs; what the helpers over two like lists answer. Condition: at most 1048576 boxes.
-/
import Derived.Test.YthkgidibonkfbaaBox
import Derived.Test.YthkgidibonkfbaaRegionL
namespace Go.Proofs.Ythkgidibonkfbaa.Tx
open Go.RowKit

/-- The seven cells of b lie in block g from o on. -/
def BoxAt (w : World) (g o : Nat) (b : BoxV) : Prop :=
  w.cell? ⟨g, o, none⟩ = some (.int .i64 b.k.u) ∧ w.cell? ⟨g, o + 1, none⟩ = some (.int .i64 b.k.s) ∧ w.cell? ⟨g, o + 2, none⟩ = some (.int .i64 b.k.h) ∧ w.cell? ⟨g, o + 3, none⟩ = some (.int .i64 b.k.a) ∧ w.cell? ⟨g, o + 4, none⟩ = some (.int .i64 b.no) ∧ w.cell? ⟨g, o + 5, none⟩ = some (.string b.t) ∧ w.cell? ⟨g, o + 6, none⟩ = some (.bool b.sp)
theorem BoxAt.below {w w' : World} {B g o : Nat} {b : BoxV} (h : BoxAt w g o b) (hg : g < B) (hb : Below B w w') : BoxAt w' g o b :=
  ⟨(hb.cell (p := ⟨g, o, none⟩) hg).trans h.1, (hb.cell (p := ⟨g, o + 1, none⟩) hg).trans h.2.1, (hb.cell (p := ⟨g, o + 2, none⟩) hg).trans h.2.2.1, (hb.cell (p := ⟨g, o + 3, none⟩) hg).trans h.2.2.2.1, (hb.cell (p := ⟨g, o + 4, none⟩) hg).trans h.2.2.2.2.1, (hb.cell (p := ⟨g, o + 5, none⟩) hg).trans h.2.2.2.2.2.1, (hb.cell (p := ⟨g, o + 6, none⟩) hg).trans h.2.2.2.2.2.2⟩
/-- A slice of boxes that reads as bs, in blocks below B. -/
def Bxs (w : World) (B : Nat) (A : Option Addr) (n : Nat) (bs : List BoxV) : Prop :=
  bs.length = n ∧ (0 < n → ∃ b off, A = some ⟨b, off, none⟩ ∧ b < B ∧ ∀ j, j < n → BoxAt w b (off + j * 7) (bs[j]?.getD .zero))
theorem Bxs.below {w w' : World} {B : Nat} {A : Option Addr} {n : Nat} {bs : List BoxV} (h : Bxs w B A n bs) (hb : Below B w w') : Bxs w' B A n bs :=
  ⟨h.1, fun hn => by
    obtain ⟨b, off, rfl, hlt, hc⟩ := h.2 hn
    exact ⟨b, off, rfl, hlt, fun j hj => (hc j hj).below hlt hb⟩⟩

set_option maxHeartbeats 2000000 in
theorem eqBoxS_same (A B : Option Addr) (n ca cb : Nat) (bs : List BoxV) (w : World) (hA : Bxs w w.heap.size A n bs) (hB : Bxs w w.heap.size B n bs) (hn : n ≤ 1048576) :
    Calls Try.prog 34 #[.slice A n ca, .slice B n cb] w fun e w' => e = .returned (.bool true) ∧ Below w.heap.size w w' := by
  have HA := Lib.hid hA.2
  have HB := Lib.hid hB.2
  clear hA hB
  go_enter Try.func34, Try.ntmps34
  go_wp2
  go_loopw [5] (fun i wr => ∃ k : Nat, k ≤ n ∧ i = .int .i64 k ∧ Hid (Below w.heap.size w wr)) (fun i _ => n - (intOf i).toNat)
  case atStart => exact ⟨0, Nat.zero_le _, rfl, Below.refl _ _⟩
  case round =>
    obtain ⟨k, hk, rfl, hW⟩ := hrel
    by_cases hlt : k < n
    · obtain ⟨b, off, rfl, hb, hc⟩ := HA.out (by omega)
      obtain ⟨b', off', rfl, hb', hc'⟩ := HB.out (by omega)
      obtain ⟨⟨⟨xu, xs, xh, xa⟩, xn, xt, xp⟩, hx⟩ : ∃ x, bs[k]?.getD BoxV.zero = x := ⟨_, rfl⟩
      have g1 := hc k hlt
      have g2 := hc' k hlt
      rw [hx] at g1 g2
      have f1 : ∀ q : Later w, BoxAt q.w b (off + k * 7) ⟨⟨xu, xs, xh, xa⟩, xn, xt, xp⟩ := fun q => g1.below hb q.bel
      have f2 : ∀ q : Later w, BoxAt q.w b' (off' + k * 7) ⟨⟨xu, xs, xh, xa⟩, xn, xt, xp⟩ := fun q => g2.below hb' q.bel
      unfold BoxAt at f1 f2
      clear hx hc hc' g1 g2
      have hk0 : (0 : Int) ≤ (k : Int) := by omega
      have hkn : (k : Int) < (n : Int) := by omega
      go_wp2
      refine wp_region_later (W := w) hW.out (by kernel_rfl) (by kernel_rfl) ?_
      repeat (go_big_quiet_step ((go_at_call 29; exact calls_later (eqBox_same ⟨⟨xu, xs, xh, xa⟩, xn, xt, xp⟩ _))))
      refine wpQuiet_nil ?_
      rintro _ ⟨⟨w', hw'⟩, rfl⟩
      have Hw' := Lib.hid hw'
      clear hw' f1 f2
      go_wp2
      go_roundw
      case rel => exact ⟨k + 1, by omega, by go_num, Hw'.out⟩
      case measure => simp [intOf]; omega
    · obtain rfl : k = n := by omega
      have hlt' : ¬ (k : Int) < (k : Int) := by omega
      go_wp2
      go_ret
      exact ⟨rfl, hW.out⟩

set_option maxHeartbeats 2000000 in
theorem likeBoxes_same (A B : Option Addr) (n ca cb : Nat) (bs : List BoxV) (w : World) (hA : Bxs w w.heap.size A n bs) (hB : Bxs w w.heap.size B n bs) (hn : n ≤ 1048576) :
    Calls Try.prog 19 #[.slice A n ca, .slice B n cb] w fun e w' => e = .returned (.bool true) ∧ Below w.heap.size w w' := by
  have HA := Lib.hid hA.2
  have HB := Lib.hid hB.2
  clear hA hB
  go_enter Try.func19, Try.ntmps19
  go_wp2
  go_loopw [5] (fun i wr => ∃ k : Nat, k ≤ n ∧ i = .int .i64 k ∧ Hid (Below w.heap.size w wr)) (fun i _ => n - (intOf i).toNat)
  case atStart => exact ⟨0, Nat.zero_le _, rfl, Below.refl _ _⟩
  case round =>
    obtain ⟨k, hk, rfl, hW⟩ := hrel
    by_cases hlt : k < n
    · obtain ⟨b, off, rfl, hb, hc⟩ := HA.out (by omega)
      obtain ⟨b', off', rfl, hb', hc'⟩ := HB.out (by omega)
      obtain ⟨⟨⟨xu, xs, xh, xa⟩, xn, xt, xp⟩, hx⟩ : ∃ x, bs[k]?.getD BoxV.zero = x := ⟨_, rfl⟩
      have g1 := hc k hlt
      have g2 := hc' k hlt
      rw [hx] at g1 g2
      have f1 : ∀ q : Later w, BoxAt q.w b (off + k * 7) ⟨⟨xu, xs, xh, xa⟩, xn, xt, xp⟩ := fun q => g1.below hb q.bel
      have f2 : ∀ q : Later w, BoxAt q.w b' (off' + k * 7) ⟨⟨xu, xs, xh, xa⟩, xn, xt, xp⟩ := fun q => g2.below hb' q.bel
      unfold BoxAt at f1 f2
      clear hx hc hc' g1 g2
      have hk0 : (0 : Int) ≤ (k : Int) := by omega
      have hkn : (k : Int) < (n : Int) := by omega
      have hq := eq_box_self xu xs xh xa xn xt xp
      go_wp2
      refine wp_region_later (W := w) hW.out (by kernel_rfl) (by kernel_rfl) ?_
      repeat (go_big_quiet_step (fail))
      refine wpQuiet_nil ?_
      rintro _ ⟨⟨w', hw'⟩, rfl⟩
      have Hw' := Lib.hid hw'
      clear hw' f1 f2
      go_wp2
      go_roundw
      case rel => exact ⟨k + 1, by omega, by go_num, Hw'.out⟩
      case measure => simp [intOf]; omega
    · obtain rfl : k = n := by omega
      have hlt' : ¬ (k : Int) < (k : Int) := by omega
      go_wp2
      go_ret
      exact ⟨rfl, hW.out⟩

end Go.Proofs.Ythkgidibonkfbaa.Tx

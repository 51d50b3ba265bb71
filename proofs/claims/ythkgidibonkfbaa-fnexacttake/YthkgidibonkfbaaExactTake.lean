/-
  The law FnExactTake returns true at every row and box, and they read behind the call as they read before: Take of the program and of the model answer alike. No condition.
-/
import Derived.Test.YthkgidibonkfbaaRows
import Derived.WalkKit
import Derived.ProofKit
import Derived.OpenShut
import Derived.ShutString
import Derived.ChangeOld
import Derived.Below
import Derived.SliceStrings
import Derived.Lib.SmallJoins
import Derived.Deep.DeepCutAuto
import Derived.Deep.RegionHeld3
import Derived.Test.YthkgidibonkfbaaOpen5
import Derived.Test.YthkgidibonkfbaaRegionL
import Derived.Test.YthkgidibonkfbaaImpl5
namespace Go.Proofs.Ythkgidibonkfbaa.fnExactTake
open Go.ChangeShapes Go.WideShapes Go.ChangeAt Go.RowKit
open Go.ChangeMaps (open_string shut_string)
set_option linter.unusedVariables false

set_option maxHeartbeats 4000000 in
theorem walk (w : World) (r : Tx.RowV) (_ : True) (b : Tx.BoxV) (hb : b.t.size ≤ maxLen) :
    Calls Try.prog 6 #[r.val, b.val] w fun e w' => e = .returned (.bool true) ∧ Below w.heap.size w w' := by
  obtain ⟨⟨ru, rs, rh, ra⟩, rn⟩ := r
  obtain ⟨⟨xu, xs, xh, xa⟩, xn, xt, xp⟩ := b
  unfold maxLen at hb
  have hb' : xt.size ≤ 9223372036854775807 := by have e : (2 : Nat) ^ 63 - 1 = 9223372036854775807 := rfl; rw [← e]; exact hb
  clear hb
  have HV : Hid (Tx.RowV.val ⟨⟨ru, rs, rh, ra⟩, rn⟩ = .agg #[.int .i64 ru, .int .i64 rs, .int .i64 rh, .int .i64 ra, .int .i64 rn]) := rfl
  have HX_V : Hid (Tx.BoxV.val ⟨⟨xu, xs, xh, xa⟩, xn, xt, xp⟩ = .agg #[.int .i64 xu, .int .i64 xs, .int .i64 xh, .int .i64 xa, .int .i64 xn, .string xt, .bool xp]) := rfl
  have K0 := ((Tx.Kp.start (w := w)).alloc (.cells #[.int .i64 ru, .int .i64 rs, .int .i64 rh, .int .i64 ra, .int .i64 rn] 52)).alloc (.cells #[.int .i64 xu, .int .i64 xs, .int .i64 xh, .int .i64 xa, .int .i64 xn, .string xt, .bool xp] 59)
  rw [HV.out, HX_V.out]
  go_enter Try.func6, Try.ntmps6
  go_wp2_with fail
  refine (Tx.szBox_any ⟨⟨xu, xs, xh, xa⟩, xn, xt, xp⟩ hb' _ (by omega) (by omega) _).mono ?_
  rintro e W ⟨rfl, b1⟩
  have K1 := K0.go b1
  have G1 := Lib.hid (Tx.blk_on b1 (Tx.heap2a w _ _))
  have G2 := Lib.hid (Tx.blk_on b1 (Tx.heap2b w _ _))
  clear b1
  obtain ⟨lf, hlf⟩ : ∃ lf, Tx.szLeft 1048576 xt.size = lf := ⟨_, rfl⟩
  rw [hlf]
  clear hlf
  by_cases hl : lf < 0
  · go_wp2
    go_ret
    exact ⟨rfl, K1.bel⟩
  · obtain ⟨⟨⟨qu, qs, qh, qa⟩, qn⟩, hq⟩ : ∃ x, Tx.takeR ⟨⟨ru, rs, rh, ra⟩, rn⟩ ⟨⟨xu, xs, xh, xa⟩, xn, xt, xp⟩ = x := ⟨_, rfl⟩
    obtain ⟨qt, hqt⟩ : ∃ x, Tx.takeT ⟨⟨ru, rs, rh, ra⟩, rn⟩ ⟨⟨xu, xs, xh, xa⟩, xn, xt, xp⟩ = x := ⟨_, rfl⟩
    obtain ⟨qb, hqb⟩ : ∃ x, Tx.takeB ⟨⟨ru, rs, rh, ra⟩, rn⟩ ⟨⟨xu, xs, xh, xa⟩, xn, xt, xp⟩ = x := ⟨_, rfl⟩
    have cR : ∀ w' : World, Calls Try.prog 27 #[.agg #[.int .i64 ru, .int .i64 rs, .int .i64 rh, .int .i64 ra, .int .i64 rn]] w' fun e w'' => e = .returned (.agg #[.int .i64 ru, .int .i64 rs, .int .i64 rh, .int .i64 ra, .int .i64 rn]) ∧ Below w'.heap.size w' w'' := fun w' => Tx.toRow_any ⟨⟨ru, rs, rh, ra⟩, rn⟩ w'
    have cX : ∀ w' : World, Calls Try.prog 31 #[.agg #[.int .i64 xu, .int .i64 xs, .int .i64 xh, .int .i64 xa, .int .i64 xn, .string xt, .bool xp]] w' fun e w'' => e = .returned (.agg #[.int .i64 xu, .int .i64 xs, .int .i64 xh, .int .i64 xa, .int .i64 xn, .string xt, .bool xp]) ∧ Below w'.heap.size w' w'' := fun w' => Tx.toBox_any ⟨⟨xu, xs, xh, xa⟩, xn, xt, xp⟩ w'
    have cS : ∀ w' : World, Calls Try.prog 25 #[.agg #[.int .i64 ru, .int .i64 rs, .int .i64 rh, .int .i64 ra, .int .i64 rn], .agg #[.int .i64 xu, .int .i64 xs, .int .i64 xh, .int .i64 xa, .int .i64 xn, .string xt, .bool xp]] w' fun e w'' => e = .returned (.tuple #[.agg #[.int .i64 qu, .int .i64 qs, .int .i64 qh, .int .i64 qa, .int .i64 qn], .string qt, .bool qb]) ∧ Below w'.heap.size w' w'' := fun w' => by
      have h1 := Tx.Take_spec ⟨⟨ru, rs, rh, ra⟩, rn⟩ ⟨⟨xu, xs, xh, xa⟩, xn, xt, xp⟩ w'
      rw [hq, hqt, hqb] at h1
      exact h1
    have cI : ∀ w' : World, Calls Try.prog 17 #[.agg #[.int .i64 ru, .int .i64 rs, .int .i64 rh, .int .i64 ra, .int .i64 rn], .agg #[.int .i64 xu, .int .i64 xs, .int .i64 xh, .int .i64 xa, .int .i64 xn, .string xt, .bool xp]] w' fun e w'' => e = .returned (.tuple #[.agg #[.int .i64 qu, .int .i64 qs, .int .i64 qh, .int .i64 qa, .int .i64 qn], .string qt, .bool qb]) ∧ Below w'.heap.size w' w'' := fun w' => by
      have h1 := Tx.Take_impl ⟨⟨ru, rs, rh, ra⟩, rn⟩ ⟨⟨xu, xs, xh, xa⟩, xn, xt, xp⟩ w'
      rw [hq, hqt, hqb] at h1
      exact h1
    clear hq hqt hqb
    have keepL : Hid (∀ w', Below W.heap.size W w' → (fun w' => (w'.cell? ⟨w.heap.size, 0, none⟩ = some (.int .i64 ru) ∧ w'.cell? ⟨w.heap.size, 1, none⟩ = some (.int .i64 rs) ∧ w'.cell? ⟨w.heap.size, 2, none⟩ = some (.int .i64 rh) ∧ w'.cell? ⟨w.heap.size, 3, none⟩ = some (.int .i64 ra) ∧ w'.cell? ⟨w.heap.size, 4, none⟩ = some (.int .i64 rn)) ∧ (w'.cell? ⟨w.heap.size + 1, 0, none⟩ = some (.int .i64 xu) ∧ w'.cell? ⟨w.heap.size + 1, 1, none⟩ = some (.int .i64 xs) ∧ w'.cell? ⟨w.heap.size + 1, 2, none⟩ = some (.int .i64 xh) ∧ w'.cell? ⟨w.heap.size + 1, 3, none⟩ = some (.int .i64 xa) ∧ w'.cell? ⟨w.heap.size + 1, 4, none⟩ = some (.int .i64 xn) ∧ w'.cell? ⟨w.heap.size + 1, 5, none⟩ = some (.string xt) ∧ w'.cell? ⟨w.heap.size + 1, 6, none⟩ = some (.bool xp))) w') := fun w' hw => ⟨(Tx.blk5 (Tx.blk_on hw G1.out)).1, (Tx.blk7 (Tx.blk_on hw G2.out)).1⟩
    obtain ⟨s0, s1⟩ := keepL.out W (Below.refl _ _)
    have hWs : w.heap.size + 1 < W.heap.size := Tx.blk_in G2.out
    have hz0 : ¬ w.heap.size = W.heap.size ∧ ¬ w.heap.size + 1 = W.heap.size ∧ ¬ W.heap.size = w.heap.size ∧ ¬ W.heap.size = w.heap.size + 1 := by omega
    have B0 : Hid (Below W.heap.size W W.drew) := Tx.drewN_below (Below.refl _ _) 1
    go_upto_region 5 with fail
    go_cut [6, 7, 8] (fun s6 s7 s8 wx => ∃ g : Nat, s6 = .pointer (some ⟨g, 0, none⟩) ∧ s7 = .string qt ∧ s8 = .bool qb ∧ Hid (wx.heap[g]? = some (.cells #[.int .i64 qu, .int .i64 qs, .int .i64 qh, .int .i64 qa, .int .i64 qn] 27)) ∧ Hid (Below W.heap.size W wx))
    case first =>
      go_region_held3 (fun w' => (w'.cell? ⟨w.heap.size, 0, none⟩ = some (.int .i64 ru) ∧ w'.cell? ⟨w.heap.size, 1, none⟩ = some (.int .i64 rs) ∧ w'.cell? ⟨w.heap.size, 2, none⟩ = some (.int .i64 rh) ∧ w'.cell? ⟨w.heap.size, 3, none⟩ = some (.int .i64 ra) ∧ w'.cell? ⟨w.heap.size, 4, none⟩ = some (.int .i64 rn)) ∧ (w'.cell? ⟨w.heap.size + 1, 0, none⟩ = some (.int .i64 xu) ∧ w'.cell? ⟨w.heap.size + 1, 1, none⟩ = some (.int .i64 xs) ∧ w'.cell? ⟨w.heap.size + 1, 2, none⟩ = some (.int .i64 xh) ∧ w'.cell? ⟨w.heap.size + 1, 3, none⟩ = some (.int .i64 xa) ∧ w'.cell? ⟨w.heap.size + 1, 4, none⟩ = some (.int .i64 xn) ∧ w'.cell? ⟨w.heap.size + 1, 5, none⟩ = some (.string xt) ∧ w'.cell? ⟨w.heap.size + 1, 6, none⟩ = some (.bool xp))) (first | go_keep | (exact keepL.out _ B3.out) | (exact keepL.out _ B2.out) | (exact keepL.out _ B1.out) | (exact keepL.out _ B0.out) | (refine keepL.out (World.alloc w3 _) ?_; exact B3.out.alloc B3.out.size _))
        (first
          | (go_at_call 27; refine (cR _).mono ?_; rintro e w1 ⟨rfl, hb⟩; first | (have hb' : Below (W.alloc _).heap.size (W.alloc _) w1 := ⟨hb.os, hb.tape, hb.output, hb.size, hb.block⟩; have Z1 := Lib.hid (Tx.blk_on hb' (Tx.heap1 W _)); have B1 : Hid (Below W.heap.size W w1) := Tx.below_new1 hb'; clear hb hb') | (have B1 : Hid (Below W.heap.size W w1) := B0.out.trans hb; clear hb); have hz1 : ¬ w.heap.size = w1.heap.size ∧ ¬ w.heap.size + 1 = w1.heap.size ∧ ¬ w1.heap.size = w.heap.size ∧ ¬ w1.heap.size = w.heap.size + 1 := (by have := B1.out.size; omega))
          | (go_at_call 31; refine (cX _).mono ?_; rintro e w2 ⟨rfl, hb⟩; first | (have Z2 := Lib.hid (Tx.blk_on hb Z1.out); have B2 : Hid (Below W.heap.size W w2) := B1.out.trans (hb.mono B1.out.size); clear hb Z1) | (have Z2 := Lib.hid (Tx.blk_on hb (Tx.heap1 w1 _)); have B2 : Hid (Below W.heap.size W w2) := B1.out.trans ((Tx.below_new1 hb).mono B1.out.size); clear hb) | (have B2 : Hid (Below W.heap.size W w2) := B1.out.trans (hb.mono B1.out.size); clear hb); have hz2 : ¬ w.heap.size = w2.heap.size ∧ ¬ w.heap.size + 1 = w2.heap.size ∧ ¬ w2.heap.size = w.heap.size ∧ ¬ w2.heap.size = w.heap.size + 1 := (by have := B2.out.size; omega))
          | (go_at_call 25; refine (cS _).mono ?_; rintro e w3 ⟨rfl, hb⟩; first | (have Z3 := Lib.hid (Tx.blk_on hb Z2.out); have B3 : Hid (Below W.heap.size W w3) := B2.out.trans (hb.mono B2.out.size); obtain ⟨⟨z0, z1, z2, z3, z4⟩, y0, y1, y2, y3, y4⟩ := Tx.blk5 Z3.out; clear hb Z2) | (have Z3 := Lib.hid (Tx.blk_on hb (Tx.heap1 w2 _)); have B3 : Hid (Below W.heap.size W w3) := B2.out.trans ((Tx.below_new1 hb).mono B2.out.size); obtain ⟨⟨z0, z1, z2, z3, z4⟩, y0, y1, y2, y3, y4⟩ := Tx.blk5 Z3.out; clear hb) | (have B3 : Hid (Below W.heap.size W w3) := B2.out.trans (hb.mono B2.out.size); clear hb)))
      · go_wp2
        go_meet
        exact ⟨w3.heap.size, rfl, rfl, rfl, Tx.heap1 w3 _, B3.out.alloc B3.out.size _⟩
      · go_wp2
        go_meet
        exact ⟨w2.heap.size, rfl, rfl, rfl, Tx.setAll_whole (w := w3) (vs := [.int .i64 qu, .int .i64 qs, .int .i64 qh, .int .i64 qa, .int .i64 qn]) Z3.out rfl, Tx.setAll_below (w := w3) (g := w2.heap.size) B2.out.size [.int .i64 qu, .int .i64 qs, .int .i64 qh, .int .i64 qa, .int .i64 qn] 0 B3.out⟩
      · go_wp2
        go_meet
        exact ⟨w1.heap.size, rfl, rfl, rfl, Tx.setAll_whole (w := w3) (vs := [.int .i64 qu, .int .i64 qs, .int .i64 qh, .int .i64 qa, .int .i64 qn]) Z3.out rfl, Tx.setAll_below (w := w3) (g := w1.heap.size) B1.out.size [.int .i64 qu, .int .i64 qs, .int .i64 qh, .int .i64 qa, .int .i64 qn] 0 B3.out⟩
      · go_wp2
        go_meet
        exact ⟨W.heap.size, rfl, rfl, rfl, Tx.setAll_whole (w := w3) (vs := [.int .i64 qu, .int .i64 qs, .int .i64 qh, .int .i64 qa, .int .i64 qn]) Z3.out rfl, Tx.setAll_below (w := w3) (g := W.heap.size) (Nat.le_refl _) [.int .i64 qu, .int .i64 qs, .int .i64 qh, .int .i64 qa, .int .i64 qn] 0 B3.out⟩
    case rest =>
      obtain ⟨g6, rfl, rfl, rfl, H6, L6⟩ := hcut
      have K6 := K1.go L6.out
      have G16 := Lib.hid (Tx.blk_on L6.out G1.out)
      have G26 := Lib.hid (Tx.blk_on L6.out G2.out)
      clear keepL s0 s1 hWs hz0 B0 G1 G2 cS K1
      generalize wc = V at H6 L6 K6 G16 G26 ⊢
      have keepL : Hid (∀ w', Below V.heap.size V w' → (fun w' => (w'.cell? ⟨w.heap.size, 0, none⟩ = some (.int .i64 ru) ∧ w'.cell? ⟨w.heap.size, 1, none⟩ = some (.int .i64 rs) ∧ w'.cell? ⟨w.heap.size, 2, none⟩ = some (.int .i64 rh) ∧ w'.cell? ⟨w.heap.size, 3, none⟩ = some (.int .i64 ra) ∧ w'.cell? ⟨w.heap.size, 4, none⟩ = some (.int .i64 rn)) ∧ (w'.cell? ⟨w.heap.size + 1, 0, none⟩ = some (.int .i64 xu) ∧ w'.cell? ⟨w.heap.size + 1, 1, none⟩ = some (.int .i64 xs) ∧ w'.cell? ⟨w.heap.size + 1, 2, none⟩ = some (.int .i64 xh) ∧ w'.cell? ⟨w.heap.size + 1, 3, none⟩ = some (.int .i64 xa) ∧ w'.cell? ⟨w.heap.size + 1, 4, none⟩ = some (.int .i64 xn) ∧ w'.cell? ⟨w.heap.size + 1, 5, none⟩ = some (.string xt) ∧ w'.cell? ⟨w.heap.size + 1, 6, none⟩ = some (.bool xp))) w') := fun w' hw => ⟨(Tx.blk5 (Tx.blk_on hw G16.out)).1, (Tx.blk7 (Tx.blk_on hw G26.out)).1⟩
      obtain ⟨s0, s1⟩ := keepL.out V (Below.refl _ _)
      have hWs : w.heap.size + 1 < V.heap.size := Tx.blk_in G26.out
      have hz0 : ¬ w.heap.size = V.heap.size ∧ ¬ w.heap.size + 1 = V.heap.size ∧ ¬ V.heap.size = w.heap.size ∧ ¬ V.heap.size = w.heap.size + 1 := by omega
      have B0 : Hid (Below V.heap.size V V.drew) := Tx.drewN_below (Below.refl _ _) 1
      go_upto_region 6 with fail
      go_cut [9, 10, 11] (fun s6 s7 s8 wx => ∃ g : Nat, s6 = .pointer (some ⟨g, 0, none⟩) ∧ s7 = .string qt ∧ s8 = .bool qb ∧ Hid (wx.heap[g]? = some (.cells #[.int .i64 qu, .int .i64 qs, .int .i64 qh, .int .i64 qa, .int .i64 qn] 27)) ∧ Hid (Below V.heap.size V wx))
      case first =>
        go_region_held3 (fun w' => (w'.cell? ⟨w.heap.size, 0, none⟩ = some (.int .i64 ru) ∧ w'.cell? ⟨w.heap.size, 1, none⟩ = some (.int .i64 rs) ∧ w'.cell? ⟨w.heap.size, 2, none⟩ = some (.int .i64 rh) ∧ w'.cell? ⟨w.heap.size, 3, none⟩ = some (.int .i64 ra) ∧ w'.cell? ⟨w.heap.size, 4, none⟩ = some (.int .i64 rn)) ∧ (w'.cell? ⟨w.heap.size + 1, 0, none⟩ = some (.int .i64 xu) ∧ w'.cell? ⟨w.heap.size + 1, 1, none⟩ = some (.int .i64 xs) ∧ w'.cell? ⟨w.heap.size + 1, 2, none⟩ = some (.int .i64 xh) ∧ w'.cell? ⟨w.heap.size + 1, 3, none⟩ = some (.int .i64 xa) ∧ w'.cell? ⟨w.heap.size + 1, 4, none⟩ = some (.int .i64 xn) ∧ w'.cell? ⟨w.heap.size + 1, 5, none⟩ = some (.string xt) ∧ w'.cell? ⟨w.heap.size + 1, 6, none⟩ = some (.bool xp))) (first | go_keep | (exact keepL.out _ B3.out) | (exact keepL.out _ B2.out) | (exact keepL.out _ B1.out) | (exact keepL.out _ B0.out) | (refine keepL.out (World.alloc w3 _) ?_; exact B3.out.alloc B3.out.size _))
          (first
            | (go_at_call 27; refine (cR _).mono ?_; rintro e w1 ⟨rfl, hb⟩; first | (have hb' : Below (V.alloc _).heap.size (V.alloc _) w1 := ⟨hb.os, hb.tape, hb.output, hb.size, hb.block⟩; have Z1 := Lib.hid (Tx.blk_on hb' (Tx.heap1 V _)); have B1 : Hid (Below V.heap.size V w1) := Tx.below_new1 hb'; clear hb hb') | (have B1 : Hid (Below V.heap.size V w1) := B0.out.trans hb; clear hb); have hz1 : ¬ w.heap.size = w1.heap.size ∧ ¬ w.heap.size + 1 = w1.heap.size ∧ ¬ w1.heap.size = w.heap.size ∧ ¬ w1.heap.size = w.heap.size + 1 := (by have := B1.out.size; omega))
            | (go_at_call 31; refine (cX _).mono ?_; rintro e w2 ⟨rfl, hb⟩; first | (have Z2 := Lib.hid (Tx.blk_on hb Z1.out); have B2 : Hid (Below V.heap.size V w2) := B1.out.trans (hb.mono B1.out.size); clear hb Z1) | (have Z2 := Lib.hid (Tx.blk_on hb (Tx.heap1 w1 _)); have B2 : Hid (Below V.heap.size V w2) := B1.out.trans ((Tx.below_new1 hb).mono B1.out.size); clear hb) | (have B2 : Hid (Below V.heap.size V w2) := B1.out.trans (hb.mono B1.out.size); clear hb); have hz2 : ¬ w.heap.size = w2.heap.size ∧ ¬ w.heap.size + 1 = w2.heap.size ∧ ¬ w2.heap.size = w.heap.size ∧ ¬ w2.heap.size = w.heap.size + 1 := (by have := B2.out.size; omega))
            | (go_at_call 17; refine (cI _).mono ?_; rintro e w3 ⟨rfl, hb⟩; first | (have Z3 := Lib.hid (Tx.blk_on hb Z2.out); have B3 : Hid (Below V.heap.size V w3) := B2.out.trans (hb.mono B2.out.size); obtain ⟨⟨z0, z1, z2, z3, z4⟩, y0, y1, y2, y3, y4⟩ := Tx.blk5 Z3.out; clear hb Z2) | (have Z3 := Lib.hid (Tx.blk_on hb (Tx.heap1 w2 _)); have B3 : Hid (Below V.heap.size V w3) := B2.out.trans ((Tx.below_new1 hb).mono B2.out.size); obtain ⟨⟨z0, z1, z2, z3, z4⟩, y0, y1, y2, y3, y4⟩ := Tx.blk5 Z3.out; clear hb) | (have B3 : Hid (Below V.heap.size V w3) := B2.out.trans (hb.mono B2.out.size); clear hb)))
        · go_wp2
          go_meet
          exact ⟨w3.heap.size, rfl, rfl, rfl, Tx.heap1 w3 _, B3.out.alloc B3.out.size _⟩
        · go_wp2
          go_meet
          exact ⟨w2.heap.size, rfl, rfl, rfl, Tx.setAll_whole (w := w3) (vs := [.int .i64 qu, .int .i64 qs, .int .i64 qh, .int .i64 qa, .int .i64 qn]) Z3.out rfl, Tx.setAll_below (w := w3) (g := w2.heap.size) B2.out.size [.int .i64 qu, .int .i64 qs, .int .i64 qh, .int .i64 qa, .int .i64 qn] 0 B3.out⟩
        · go_wp2
          go_meet
          exact ⟨w1.heap.size, rfl, rfl, rfl, Tx.setAll_whole (w := w3) (vs := [.int .i64 qu, .int .i64 qs, .int .i64 qh, .int .i64 qa, .int .i64 qn]) Z3.out rfl, Tx.setAll_below (w := w3) (g := w1.heap.size) B1.out.size [.int .i64 qu, .int .i64 qs, .int .i64 qh, .int .i64 qa, .int .i64 qn] 0 B3.out⟩
        · go_wp2
          go_meet
          exact ⟨V.heap.size, rfl, rfl, rfl, Tx.setAll_whole (w := w3) (vs := [.int .i64 qu, .int .i64 qs, .int .i64 qh, .int .i64 qa, .int .i64 qn]) Z3.out rfl, Tx.setAll_below (w := w3) (g := V.heap.size) (Nat.le_refl _) [.int .i64 qu, .int .i64 qs, .int .i64 qh, .int .i64 qa, .int .i64 qn] 0 B3.out⟩
      case rest =>
        obtain ⟨g9, rfl, rfl, rfl, H9, L9⟩ := hcut
        have K9 := K6.go L9.out
        obtain ⟨⟨c0, c1, c2, c3, c4⟩, _⟩ := Tx.blk5 (Tx.blk_on L9.out H6.out)
        obtain ⟨⟨d0, d1, d2, d3, d4⟩, _⟩ := Tx.blk5 H9.out
        clear keepL s0 s1 hWs hz0 B0
        go_wp2_with fail
        refine (Tx.eqRow_same ⟨⟨qu, qs, qh, qa⟩, qn⟩ _).mono ?_
        rintro e w7 ⟨rfl, b7⟩
        have K7 := K9.go b7
        clear b7
        go_wp2
        go_ret
        exact ⟨rfl, K7.bel⟩

theorem own : ownKnob Try.prog.godebug = none := by kernel_rfl
theorem laidOut : laidOutB Try.prog = true := by kernel_rfl

set_option maxRecDepth 100000 in
theorem lifted (os : Os) (started : os.Started) (H : Type) (enc : TypeId × Value → H) :
    ReturnsInHanded {} Try.checked os 6 .any (Rows.fnExactTakeSpec.pre6 enc Try.prog Try.f6 Rows.fnExactTakeRow.domain false) (Rows.fnExactTakeSpec.post enc Try.prog Try.f6 false true false false) := by
  refine returnsInHanded_of_change (C := Try.checked) own started (by kernel_rfl) Try.func6
    (ChangeSpec.witness6 (enc := enc) (C := Try.checked) false ⟨#[], #[.agg #[.int .i64 0, .int .i64 0, .int .i64 0, .int .i64 0, .int .i64 0], .agg #[.int .i64 0, .int .i64 0, .int .i64 0, .int .i64 0, .int .i64 0, .string ByteArray.empty, .bool false]], []⟩ 8 (by kernel_rfl) (by kernel_rfl) (by kernel_rfl) (by kernel_rfl)) ?_
  intro W base args ds gs before hval0 hW hcnd _
  have hval : ∀ (j : Nat) t v, Try.f6.params[j]? = some t → args[j]? = some v → Value.okWide Try.prog W .any base t v := hval0
  have hW' := hW
  obtain ⟨p, q, hA0, hV, rfl, hfz, hnd⟩ := hW
  have hA : DataW.TrodAll enc Try.prog W 0 (fun _ => true) true Try.f6.params.toList args.toList ds p := hA0
  rw [Try.params6] at hA hval
  obtain ⟨v0, vs0, d0, ds0, p0, q0, hargs, rfl, rfl, h0, r0⟩ := trodAll_cons hA
  obtain ⟨v1, vs1, d1, ds1, p1, q1, rfl, rfl, rfl, h1, r1⟩ := trodAll_cons r0
  obtain ⟨rfl, rfl, rfl⟩ := trodAll_nil r1
  obtain rfl : args = #[v0, v1] := by cases args; simp_all
  obtain ⟨rfl, rfl⟩ := trodVars_none hV
  have k0 := h0
  have lt0 : ∀ x ∈ p0, x.block < W.heap.size := by obtain ⟨m, hm⟩ := k0; exact DataW.trod_lt m _ _ _ hm
  have k1 := h1
  have lt1 : ∀ x ∈ p1, x.block < W.heap.size := by obtain ⟨m, hm⟩ := k1; exact DataW.trod_lt m _ _ _ hm
  obtain ⟨b0, rfl, w0⟩ := Tx.open_row (hval 0 52 v0 rfl rfl) h0
  obtain ⟨b1, rfl, w1⟩ := Tx.open_box (hval 1 59 v1 rfl rfl) h1
  clear hA0 hval0
  refine (walk W b0 w0 b1 w1).mono fun e W' ⟨he, bel⟩ => ?_
  subst he
  exact ⟨_, rfl, _, _, _, [], _, [], hW', trodAll_mk1 (shut_bool Try.underlying4 _), (trodAll_cons_mk (Below.trod laidOut (by kernel_rfl) (of_decide_eq_true (by kernel_rfl)) k0 bel lt0) (trodAll_cons_mk (Below.trod laidOut (by kernel_rfl) (of_decide_eq_true (by kernel_rfl)) k1 bel lt1) trodAll_mk0)), rfl, bel.frame _, fun h => by cases h⟩

theorem over : Rows.fnExactTakeRow.holds Try.pinned (OpenSpec.ofChange Rows.fnExactTakeSpec) :=
  OpenClaim.holds_of_wide 6 Try.f6 rfl rfl rfl rfl rfl rfl rfl ⟨rfl, rfl, rfl, rfl, rfl⟩ rfl rfl rfl rfl rfl (by kernel_rfl) Try.func6 (by kernel_rfl)
    (of_decide_eq_true (by kernel_rfl)) (by unfold Func.isWrapper; first | (rw [if_pos (by decide +kernel)]; kernel_rfl) | (rw [if_neg (by decide +kernel)]; exact ⟨rfl, rfl⟩))
    (fun os started H enc _ => lifted os started H enc)

end Go.Proofs.Ythkgidibonkfbaa.fnExactTake

namespace Go.Proofs.Ythkgidibonkfbaa
theorem fnExactTake_proved : Rows.FnExactTakeSaid := fnExactTake.over
#print axioms fnExactTake_proved
end Go.Proofs.Ythkgidibonkfbaa

/-
  The law FnKeys returns true at every code, and the code reads behind the call as it read before: keys of unlike numbers or uses are unlike, and each is right. No condition.
-/
import Derived.Test.YtdppkdldjkpmpaaRows
import Derived.WalkKit
import Derived.ProofKit
import Derived.OpenShut
import Derived.ShutString
import Derived.ChangeOld
import Derived.Below
import Derived.SliceStrings
import Derived.Lib.SmallJoins
import Derived.Deep.DeepCutAuto
import Derived.Deep.RegionWith
import Derived.Test.YtdppkdldjkpmpaaDraw3
import Derived.Test.YtdppkdldjkpmpaaImpl3n
import Derived.Test.YtdppkdldjkpmpaaRegionL
namespace Go.Proofs.Ytdppkdldjkpmpaa.fnKeys
open Go.ChangeShapes Go.WideShapes Go.ChangeAt Go.RowKit
open Go.ChangeMaps (open_string shut_string)
set_option linter.unusedVariables false

open Tx (KeyV rightK nextK keyOkB)

/-- The six keys of three numbers. -/
def keysOf (s h a : Int) : Nat → KeyV
  | 0 => rightK ⟨1, s, h, 0⟩
  | 1 => rightK ⟨2, s, h, 0⟩
  | 2 => rightK ⟨3, s, h, a⟩
  | 3 => rightK ⟨4, s, h, a⟩
  | 4 => rightK ⟨5, s, h, a⟩
  | _ => rightK ⟨6, s, 0, 0⟩
theorem right_cases (k : KeyV) : rightK k = .zero ∨ (rightK k = k ∧ keyOkB k = true) := by
  cases h : keyOkB k with
  | false => exact .inl (Tx.rightK_no h)
  | true => exact .inr ⟨Tx.rightK_yes h, rfl⟩
theorem keys_form (s h a : Int) (k : Nat) (hk : k < 6) : ∃ h' a', keysOf s h a k = rightK ⟨(k : Int) + 1, s, h', a'⟩ := by
  match k, hk with
  | 0, _ => exact ⟨_, _, rfl⟩
  | 1, _ => exact ⟨_, _, rfl⟩
  | 2, _ => exact ⟨_, _, rfl⟩
  | 3, _ => exact ⟨_, _, rfl⟩
  | 4, _ => exact ⟨_, _, rfl⟩
  | 5, _ => exact ⟨_, _, rfl⟩
theorem keys_right {s h a : Int} {k : Nat} (hk : k < 6) (hz : keysOf s h a k ≠ .zero) : keyOkB (keysOf s h a k) = true ∧ (keysOf s h a k).s = s ∧ (keysOf s h a k).u = (k : Int) + 1 := by
  obtain ⟨h', a', e⟩ := keys_form s h a k hk
  rw [e] at hz ⊢
  rcases right_cases ⟨(k : Int) + 1, s, h', a'⟩ with h0 | ⟨h1, h2⟩
  · exact absurd h0 hz
  · rw [h1]; exact ⟨h2, rfl, rfl⟩
theorem keys_unlike {s h a : Int} {i j : Nat} (hi : i < 6) (hj : j < i) (hz : keysOf s h a i ≠ .zero) : keysOf s h a i ≠ keysOf s h a j := fun e => by
  have h1 := (keys_right hi hz).2.2
  have h2 := (keys_right (k := j) (by omega) (by rw [← e]; exact hz)).2.2
  rw [e, h2] at h1
  omega
theorem early_unlike {s h a : Int} (hz : keysOf s h a 0 ≠ .zero) : rightK ⟨1, s + 1, h, 0⟩ ≠ keysOf s h a 0 := fun e => by
  rcases right_cases ⟨1, s + 1, h, 0⟩ with h0 | ⟨h1, _⟩
  · exact hz (by rw [← e, h0])
  · have h2 := (keys_right (k := 0) (by omega) hz).2.1
    rw [← e, h1] at h2
    dsimp only at h2
    omega
theorem next_thrice {k : KeyV} (hz : nextK k ≠ .zero) : nextK (nextK (nextK k)) = k := by
  obtain ⟨u, s, h, a⟩ := k
  cases hk : keyOkB ⟨3, s, h, a⟩ with
  | false => exact absurd (Tx.next_bad hk) hz
  | true =>
    cases hu : Tx.inB u 3 5 with
    | false => exact absurd (by simp [nextK, hu]) hz
    | true =>
      obtain ⟨h3, h5⟩ := Tx.inB_true hu
      have h34 : rightK ⟨3, s, h, a⟩ = ⟨3, s, h, a⟩ := Tx.rightK_yes hk
      have h44 : rightK ⟨4, s, h, a⟩ = ⟨4, s, h, a⟩ := Tx.rightK_yes ((Tx.ok_345 s h a).1.trans hk)
      have h54 : rightK ⟨5, s, h, a⟩ = ⟨5, s, h, a⟩ := Tx.rightK_yes ((Tx.ok_345 s h a).2.trans hk)
      have : u = 3 ∨ u = 4 ∨ u = 5 := by omega
      rcases this with rfl | rfl | rfl
      · rw [Tx.next_3 h34.symm, Tx.next_4 rfl, Tx.next_5 rfl, h34]
      · rw [Tx.next_4 h44.symm, Tx.next_5 rfl, Tx.next_3 rfl, h44]
      · rw [Tx.next_5 h54.symm, Tx.next_3 rfl, Tx.next_4 rfl, h54]

/-- The cells of the six keys one behind the other. -/
theorem keys_cells {s h a p0 s0 h0 a0 p1 s1 h1 a1 p2 s2 h2 a2 p3 s3 h3 a3 p4 s4 h4 a4 p5 s5 h5 a5 : Int} {cs : Array Value}
    (hcs : cs = #[.int .i64 p0, .int .i64 s0, .int .i64 h0, .int .i64 a0, .int .i64 p1, .int .i64 s1, .int .i64 h1, .int .i64 a1, .int .i64 p2, .int .i64 s2, .int .i64 h2, .int .i64 a2, .int .i64 p3, .int .i64 s3, .int .i64 h3, .int .i64 a3, .int .i64 p4, .int .i64 s4, .int .i64 h4, .int .i64 a4, .int .i64 p5, .int .i64 s5, .int .i64 h5, .int .i64 a5])
    (e0 : rightK ⟨1, s, h, 0⟩ = ⟨p0, s0, h0, a0⟩) (e1 : rightK ⟨2, s, h, 0⟩ = ⟨p1, s1, h1, a1⟩) (e2 : rightK ⟨3, s, h, a⟩ = ⟨p2, s2, h2, a2⟩) (e3 : rightK ⟨4, s, h, a⟩ = ⟨p3, s3, h3, a3⟩) (e4 : rightK ⟨5, s, h, a⟩ = ⟨p4, s4, h4, a4⟩) (e5 : rightK ⟨6, s, 0, 0⟩ = ⟨p5, s5, h5, a5⟩) :
    ∀ k, k < 6 → cs[k * 4]? = some (.int .i64 (keysOf s h a k).u) ∧ cs[k * 4 + 1]? = some (.int .i64 (keysOf s h a k).s) ∧ cs[k * 4 + 2]? = some (.int .i64 (keysOf s h a k).h) ∧ cs[k * 4 + 3]? = some (.int .i64 (keysOf s h a k).a) := by
  intro k hk
  subst hcs
  match k, hk with
  | 0, _ => simp [keysOf, e0]
  | 1, _ => simp [keysOf, e1]
  | 2, _ => simp [keysOf, e2]
  | 3, _ => simp [keysOf, e3]
  | 4, _ => simp [keysOf, e4]
  | 5, _ => simp [keysOf, e5]

set_option maxRecDepth 100000 in
set_option maxHeartbeats 8000000 in
theorem walk (w : World) (a0 : Option Addr) (len0 cap0 : Nat) (hb : Tx.BytesAt w w.heap.size a0 len0) (hl : len0 ≤ maxLen) :
    Calls Try.prog 3 #[.slice a0 len0 cap0] w fun e w' => e = .returned (.bool true) ∧ Below w.heap.size w w' := by
  unfold maxLen at hl
  have HB := Lib.hid hb
  clear hb
  by_cases hbig : 4096 < len0
  · have hd : decide (4096 < len0) = true := by simpa using hbig
    go_enter Try.func3, Try.ntmps3
    go_wp2_with fail
    refine (Tx.big_any _ _ _ _).mono ?_
    rintro e w' ⟨rfl, rfl⟩
    go_wp2
    go_ret
    exact ⟨rfl, Below.refl _ _⟩
  · have hd : decide (4096 < len0) = false := by simpa using hbig
    have hn : len0 ≤ 4096 := by omega
    clear hbig
    go_enter Try.func3, Try.ntmps3
    go_wp2_with fail
    refine (Tx.big_any _ _ _ _).mono ?_
    rintro e w' ⟨rfl, rfl⟩
    go_wp2_with fail
    refine (Tx.DrawHandKey_any _ _ _ _ hn HB.out).mono ?_
    rintro e w1 ⟨s, h, a, hsb, rfl, b1⟩
    have HSB := Lib.hid hsb
    have K1 := Tx.Kp.start.go b1
    have HB1 := Lib.hid (HB.out.kept b1)
    clear b1 hsb
    go_wp2_with fail
    refine (Tx.DrawKeyOk_any _ _ _ _ hn HB1.out).mono ?_
    rintro e w2 ⟨⟨ku, ks, kh, ka⟩, rfl, b2⟩
    have K2 := (K1.go b2).alloc (.cells #[.int .i64 ku, .int .i64 ks, .int .i64 kh, .int .i64 ka] 27)
    have G0 := Lib.hid (Tx.heap1 w2 (.cells #[.int .i64 ku, .int .i64 ks, .int .i64 kh, .int .i64 ka] 27))
    clear b2
    unfold Tx.KeyV.val
    go_wp2_with fail
    refine (Tx.NextKey_impl ⟨ku, ks, kh, ka⟩ _).mono ?_
    rintro e w3 ⟨rfl, b3⟩
    obtain ⟨⟨nu, ns, nh, na⟩, hx⟩ : ∃ k', nextK ⟨ku, ks, kh, ka⟩ = k' := ⟨_, rfl⟩
    have HN := Lib.hid hx
    rw [hx]
    clear hx
    obtain ⟨W3, hW3⟩ : ∃ W, w3.alloc (.cells #[.int .i64 nu, .int .i64 ns, .int .i64 nh, .int .i64 na] 27) = W := ⟨_, rfl⟩
    have G1 := Lib.hid ((Tx.alloc_blk (o := .cells #[.int .i64 nu, .int .i64 ns, .int .i64 nh, .int .i64 na] 27) ((b3.block _ (by simp)).trans G0.out)))
    have G2 := Lib.hid (Tx.heap1 w3 (.cells #[.int .i64 nu, .int .i64 ns, .int .i64 nh, .int .i64 na] 27))
    have K3 := (K2.go b3).alloc (.cells #[.int .i64 nu, .int .i64 ns, .int .i64 nh, .int .i64 na] 27)
    rw [hW3] at G1 G2 K3
    clear b3 K1 K2 G0 HB HB1
    have M3 : Tx.Kp W3 W3 := Tx.Kp.start
    unfold Tx.KeyV.val
    go_wp2_with fail
    clear hW3
    refine (Tx.EarlyKey_impl s h _).mono ?_
    rintro e w4 ⟨rfl, b4⟩
    obtain ⟨⟨p0, s0, h0, a0⟩, hx⟩ : ∃ k', rightK ⟨1, s, h, 0⟩ = k' := ⟨_, rfl⟩
    have E0 := Lib.hid hx
    rw [hx]
    have M4 := M3.go b4
    clear hx b4 M3
    unfold Tx.KeyV.val
    go_wp2_with fail
    refine (Tx.BindKey_impl s h _).mono ?_
    rintro e w5 ⟨rfl, b5⟩
    obtain ⟨⟨p1, s1, h1, a1⟩, hx⟩ : ∃ k', rightK ⟨2, s, h, 0⟩ = k' := ⟨_, rfl⟩
    have E1 := Lib.hid hx
    rw [hx]
    have M5 := M4.go b5
    clear hx b5 M4
    unfold Tx.KeyV.val
    go_wp2_with fail
    refine (Tx.HandKey_impl s h a _).mono ?_
    rintro e w6 ⟨rfl, b6⟩
    obtain ⟨⟨p2, s2, h2, a2⟩, hx⟩ : ∃ k', rightK ⟨3, s, h, a⟩ = k' := ⟨_, rfl⟩
    have E2 := Lib.hid hx
    rw [hx]
    have M6 := M5.go b6
    clear hx b6 M5
    unfold Tx.KeyV.val
    go_wp2_with fail
    refine (Tx.ForthKey_impl s h a _).mono ?_
    rintro e w7 ⟨rfl, b7⟩
    obtain ⟨⟨p3, s3, h3, a3⟩, hx⟩ : ∃ k', rightK ⟨4, s, h, a⟩ = k' := ⟨_, rfl⟩
    have E3 := Lib.hid hx
    rw [hx]
    have M7 := M6.go b7
    clear hx b7 M6
    unfold Tx.KeyV.val
    go_wp2_with fail
    refine (Tx.BackKey_impl s h a _).mono ?_
    rintro e w8 ⟨rfl, b8⟩
    obtain ⟨⟨p4, s4, h4, a4⟩, hx⟩ : ∃ k', rightK ⟨5, s, h, a⟩ = k' := ⟨_, rfl⟩
    have E4 := Lib.hid hx
    rw [hx]
    have M8 := M7.go b8
    clear hx b8 M7
    unfold Tx.KeyV.val
    go_wp2_with fail
    refine (Tx.TokenKey_impl s _).mono ?_
    rintro e w9 ⟨rfl, b9⟩
    obtain ⟨⟨p5, s5, h5, a5⟩, hx⟩ : ∃ k', rightK ⟨6, s, 0, 0⟩ = k' := ⟨_, rfl⟩
    have E5 := Lib.hid hx
    rw [hx]
    have M9 := M8.go b9
    clear hx b9 M8
    unfold Tx.KeyV.val
    go_wp2_with fail
    obtain ⟨cs, hcs⟩ : ∃ cs : Array Value, cs = #[.int .i64 p0, .int .i64 s0, .int .i64 h0, .int .i64 a0, .int .i64 p1, .int .i64 s1, .int .i64 h1, .int .i64 a1, .int .i64 p2, .int .i64 s2, .int .i64 h2, .int .i64 a2, .int .i64 p3, .int .i64 s3, .int .i64 h3, .int .i64 a3, .int .i64 p4, .int .i64 s4, .int .i64 h4, .int .i64 a4, .int .i64 p5, .int .i64 s5, .int .i64 h5, .int .i64 a5] := ⟨_, rfl⟩
    have HCS := Lib.hid hcs
    rw [← hcs]
    obtain ⟨W9, hW9⟩ : ∃ W, W = w9.alloc (.cells cs 27) := ⟨_, rfl⟩
    rw [← hW9]
    have G19 : Hid (W9.heap[w2.heap.size]? = some _) := hW9 ▸ Tx.alloc_blk (o := .cells cs 27) ((M9.bel.block _ (Tx.blk_in G1.out)).trans G1.out)
    have G29 : Hid (W9.heap[w3.heap.size]? = some _) := hW9 ▸ Tx.alloc_blk (o := .cells cs 27) ((M9.bel.block _ (Tx.blk_in G2.out)).trans G2.out)
    have G39 : Hid (W9.heap[w9.heap.size]? = some (.cells cs 27)) := hW9 ▸ Tx.heap1 w9 _
    have K9 : Tx.Kp w W9 := hW9 ▸ (K3.go M9.bel).alloc _
    clear hW9 M9 K3 G1 G2 hcs
    have M9 : Tx.Kp W9 W9 := Tx.Kp.start
    refine (Tx.EarlyKey_spec s h _).mono ?_
    rintro e w10 ⟨rfl, b10⟩
    rw [E0.out]
    have M10 := M9.go b10
    clear b10 M9
    unfold Tx.KeyV.val
    go_wp2_with fail
    refine (Tx.BindKey_spec s h _).mono ?_
    rintro e w11 ⟨rfl, b11⟩
    rw [E1.out]
    have M11 := M10.go b11
    clear b11 M10
    unfold Tx.KeyV.val
    go_wp2_with fail
    refine (Tx.HandKey_spec s h a _).mono ?_
    rintro e w12 ⟨rfl, b12⟩
    rw [E2.out]
    have M12 := M11.go b12
    clear b12 M11
    unfold Tx.KeyV.val
    go_wp2_with fail
    refine (Tx.ForthKey_spec s h a _).mono ?_
    rintro e w13 ⟨rfl, b13⟩
    rw [E3.out]
    have M13 := M12.go b13
    clear b13 M12
    unfold Tx.KeyV.val
    go_wp2_with fail
    refine (Tx.BackKey_spec s h a _).mono ?_
    rintro e w14 ⟨rfl, b14⟩
    rw [E4.out]
    have M14 := M13.go b14
    clear b14 M13
    unfold Tx.KeyV.val
    go_wp2_with fail
    refine (Tx.TokenKey_spec s _).mono ?_
    rintro e w15 ⟨rfl, b15⟩
    rw [E5.out]
    have M15 := M14.go b15
    clear b15 M14
    unfold Tx.KeyV.val
    go_wp2_with fail
    rw [← HCS.out]
    obtain ⟨W, hW⟩ : ∃ W, W = w15.alloc (.cells cs 27) := ⟨_, rfl⟩
    rw [← hW]
    have G1 : Hid (W.heap[w2.heap.size]? = some _) := hW ▸ Tx.alloc_blk (o := .cells cs 27) ((M15.bel.block _ (Tx.blk_in G19.out)).trans G19.out)
    have G2 : Hid (W.heap[w3.heap.size]? = some _) := hW ▸ Tx.alloc_blk (o := .cells cs 27) ((M15.bel.block _ (Tx.blk_in G29.out)).trans G29.out)
    have G3 : Hid (W.heap[w9.heap.size]? = some (.cells cs 27)) := hW ▸ Tx.alloc_blk (o := .cells cs 27) ((M15.bel.block _ (Tx.blk_in G39.out)).trans G39.out)
    have G4 : Hid (W.heap[w15.heap.size]? = some (.cells cs 27)) := hW ▸ Tx.heap1 w15 _
    have KW : Hid (Tx.Kp w W) := hW ▸ (K9.go M15.bel).alloc _
    clear hW M15 K9 G19 G29 G39
    generalize w2.heap.size = g1 at G1 ⊢
    generalize w3.heap.size = g2 at G2 ⊢
    generalize w9.heap.size = g3 at G3 ⊢
    generalize w15.heap.size = g4 at G4 ⊢
    have r1 : ∀ n : Tx.Later W, (n.w.cell? ⟨g1, 0, none⟩ = some (.int .i64 ku) ∧ n.w.cell? ⟨g1, 1, none⟩ = some (.int .i64 ks) ∧ n.w.cell? ⟨g1, 2, none⟩ = some (.int .i64 kh) ∧ n.w.cell? ⟨g1, 3, none⟩ = some (.int .i64 ka)) := fun n => (Tx.blk4 (n.block G1.out)).1
    have r2 : ∀ n : Tx.Later W, (n.w.cell? ⟨g2, 0, none⟩ = some (.int .i64 nu) ∧ n.w.cell? ⟨g2, 1, none⟩ = some (.int .i64 ns) ∧ n.w.cell? ⟨g2, 2, none⟩ = some (.int .i64 nh) ∧ n.w.cell? ⟨g2, 3, none⟩ = some (.int .i64 na)) := fun n => (Tx.blk4 (n.block G2.out)).1
    have R1 := Lib.hid r1
    have R2 := Lib.hid r2
    have eN := fun w' => (Tx.eq_agg nu ns nh na nu ns nh na w').trans (by rw [Tx.KeyV.same_self])
    have cN : ∀ w' : World, Calls Try.prog 28 #[.agg #[.int .i64 ku, .int .i64 ks, .int .i64 kh, .int .i64 ka]] w' fun e w'' => e = .returned (.agg #[.int .i64 nu, .int .i64 ns, .int .i64 nh, .int .i64 na]) ∧ Below w'.heap.size w' w'' := fun w' => by
      have h1 := Tx.NextKey_spec ⟨ku, ks, kh, ka⟩ w'
      rw [HN.out] at h1
      exact h1
    refine Tx.wp_region_later (W := W) (Below.refl _ _) (by kernel_rfl) (by kernel_rfl) ?_
    repeat (go_big_quiet_step (first | (go_at_call 28; exact Tx.calls_later (cN _)) | (go_at_call 29; exact Tx.calls_later (Tx.KeyOk_impl ⟨ku, ks, kh, ka⟩ _)) | (go_at_call 30; exact Tx.calls_later (Tx.KeyOk_spec ⟨ku, ks, kh, ka⟩ _))))
    refine wpQuiet_nil ?_
    rintro _ ⟨⟨W1, hW1⟩, rfl⟩
    go_wp2_with fail
    clear r1 r2 eN cN
    have HW1 := Lib.hid hW1
    clear hW1
    have l0 : Hid (∀ n : Tx.Later W, (n.w.cell? ⟨g3, 0, none⟩ = some (.int .i64 p0) ∧ n.w.cell? ⟨g3, 1, none⟩ = some (.int .i64 s0) ∧ n.w.cell? ⟨g3, 2, none⟩ = some (.int .i64 h0) ∧ n.w.cell? ⟨g3, 3, none⟩ = some (.int .i64 a0))) := fun n => ⟨(Tx.blk_cell (n.block G3.out) 0).trans (by rw [HCS.out]; rfl), (Tx.blk_cell (n.block G3.out) 1).trans (by rw [HCS.out]; rfl), (Tx.blk_cell (n.block G3.out) 2).trans (by rw [HCS.out]; rfl), (Tx.blk_cell (n.block G3.out) 3).trans (by rw [HCS.out]; rfl)⟩
    have l2 : Hid (∀ n : Tx.Later W, (n.w.cell? ⟨g3, 8, none⟩ = some (.int .i64 p2) ∧ n.w.cell? ⟨g3, 9, none⟩ = some (.int .i64 s2) ∧ n.w.cell? ⟨g3, 10, none⟩ = some (.int .i64 h2) ∧ n.w.cell? ⟨g3, 11, none⟩ = some (.int .i64 a2))) := fun n => ⟨(Tx.blk_cell (n.block G3.out) 8).trans (by rw [HCS.out]; rfl), (Tx.blk_cell (n.block G3.out) 9).trans (by rw [HCS.out]; rfl), (Tx.blk_cell (n.block G3.out) 10).trans (by rw [HCS.out]; rfl), (Tx.blk_cell (n.block G3.out) 11).trans (by rw [HCS.out]; rfl)⟩
    have l3 : Hid (∀ n : Tx.Later W, (n.w.cell? ⟨g3, 12, none⟩ = some (.int .i64 p3) ∧ n.w.cell? ⟨g3, 13, none⟩ = some (.int .i64 s3) ∧ n.w.cell? ⟨g3, 14, none⟩ = some (.int .i64 h3) ∧ n.w.cell? ⟨g3, 15, none⟩ = some (.int .i64 a3))) := fun n => ⟨(Tx.blk_cell (n.block G3.out) 12).trans (by rw [HCS.out]; rfl), (Tx.blk_cell (n.block G3.out) 13).trans (by rw [HCS.out]; rfl), (Tx.blk_cell (n.block G3.out) 14).trans (by rw [HCS.out]; rfl), (Tx.blk_cell (n.block G3.out) 15).trans (by rw [HCS.out]; rfl)⟩
    have l4 : Hid (∀ n : Tx.Later W, (n.w.cell? ⟨g3, 16, none⟩ = some (.int .i64 p4) ∧ n.w.cell? ⟨g3, 17, none⟩ = some (.int .i64 s4) ∧ n.w.cell? ⟨g3, 18, none⟩ = some (.int .i64 h4) ∧ n.w.cell? ⟨g3, 19, none⟩ = some (.int .i64 a4))) := fun n => ⟨(Tx.blk_cell (n.block G3.out) 16).trans (by rw [HCS.out]; rfl), (Tx.blk_cell (n.block G3.out) 17).trans (by rw [HCS.out]; rfl), (Tx.blk_cell (n.block G3.out) 18).trans (by rw [HCS.out]; rfl), (Tx.blk_cell (n.block G3.out) 19).trans (by rw [HCS.out]; rfl)⟩
    have HC := Lib.hid (keys_cells HCS.out E0.out E1.out E2.out E3.out E4.out E5.out)
    go_loopw [10] (fun i wr => ∃ k : Nat, k ≤ 6 ∧ i = .int .i64 k ∧ Hid (Below W.heap.size W wr)) (fun i _ => 6 - (intOf i).toNat)
    case atStart => exact ⟨0, by omega, rfl, HW1.out⟩
    case round =>
      obtain ⟨k, hk, rfl, hBr⟩ := hrel
      by_cases hlt : k < 6
      · have hi0 : (0 : Int) ≤ (k : Int) := by omega
        have hi6 : (k : Int) < 6 := by omega
        obtain ⟨⟨x0, x1, x2, x3⟩, hx⟩ : ∃ x, keysOf s h a k = x := ⟨_, rfl⟩
        have HX := Lib.hid hx
        obtain ⟨c0, c1, c2, c3⟩ := HC.out k hlt
        rw [hx] at c0 c1 c2 c3
        have f3 : ∀ n : Tx.Later W, (n.w.cell? ⟨g3, k * 4, none⟩ = some (.int .i64 x0) ∧ n.w.cell? ⟨g3, k * 4 + 1, none⟩ = some (.int .i64 x1) ∧ n.w.cell? ⟨g3, k * 4 + 2, none⟩ = some (.int .i64 x2) ∧ n.w.cell? ⟨g3, k * 4 + 3, none⟩ = some (.int .i64 x3)) := fun n => ⟨(Tx.blk_cell (n.block G3.out) _).trans c0, (Tx.blk_cell (n.block G3.out) _).trans c1, (Tx.blk_cell (n.block G3.out) _).trans c2, (Tx.blk_cell (n.block G3.out) _).trans c3⟩
        have f4 : ∀ n : Tx.Later W, (n.w.cell? ⟨g4, k * 4, none⟩ = some (.int .i64 x0) ∧ n.w.cell? ⟨g4, k * 4 + 1, none⟩ = some (.int .i64 x1) ∧ n.w.cell? ⟨g4, k * 4 + 2, none⟩ = some (.int .i64 x2) ∧ n.w.cell? ⟨g4, k * 4 + 3, none⟩ = some (.int .i64 x3)) := fun n => ⟨(Tx.blk_cell (n.block G4.out) _).trans c0, (Tx.blk_cell (n.block G4.out) _).trans c1, (Tx.blk_cell (n.block G4.out) _).trans c2, (Tx.blk_cell (n.block G4.out) _).trans c3⟩
        clear hx c0 c1 c2 c3
        go_upto_region 13 with fail
        go_cut [114] (fun c wx => c = .bool false ∧ Hid (Below W.heap.size W wx))
        case first =>
          by_cases hz : (⟨x0, x1, x2, x3⟩ : KeyV) = .zero
          · injection hz with z0 z1 z2 z3
            subst z0; subst z1; subst z2; subst z3
            have eX := fun w' => (Tx.eq_agg 0 0 0 0 0 0 0 0 w').trans (by rw [Tx.KeyV.same_self])
            refine Tx.wp_region_later (W := W) hBr.out (by kernel_rfl) (by kernel_rfl) ?_
            repeat (go_big_quiet_step (fail))
            refine wpQuiet_nil ?_
            rintro _ ⟨⟨w', hw'⟩, rfl⟩
            have Hw' := Lib.hid hw'
            clear hw'
            go_wp2
            go_meet
            exact ⟨rfl, Hw'.out⟩
          · obtain ⟨hok, hs, _⟩ := keys_right hlt (by rw [HX.out]; exact hz)
            rw [HX.out] at hok hs
            dsimp only at hs
            have eX := fun w' => (Tx.eq_agg x0 x1 x2 x3 x0 x1 x2 x3 w').trans (by rw [Tx.KeyV.same_self])
            have eZ := fun w' => (Tx.eq_agg x0 x1 x2 x3 0 0 0 0 w').trans (by rw [show Tx.KeyV.same ⟨x0, x1, x2, x3⟩ ⟨0, 0, 0, 0⟩ = false from Tx.KeyV.same_not hz])
            have cK : ∀ w' : World, Calls Try.prog 29 #[.agg #[.int .i64 x0, .int .i64 x1, .int .i64 x2, .int .i64 x3]] w' fun e w'' => e = .returned (.bool true) ∧ Below w'.heap.size w' w'' := fun w' => by
              have h1 := Tx.KeyOk_impl ⟨x0, x1, x2, x3⟩ w'
              rw [hok] at h1
              exact h1
            clear hok hz
            subst hs
            refine Tx.wp_region_later (W := W) hBr.out (by kernel_rfl) (by kernel_rfl) ?_
            repeat (go_big_quiet_step ((go_at_call 29; exact Tx.calls_later (cK _))))
            refine wpQuiet_nil ?_
            rintro _ ⟨⟨w', hw'⟩, rfl⟩
            have Hw' := Lib.hid hw'
            clear hw'
            go_wp2
            go_meet
            exact ⟨rfl, Hw'.out⟩
        case rest =>
          obtain ⟨rfl, hBc⟩ := hcut
          go_wp2_with fail
          go_loopw [11] (fun j wi => ∃ m : Nat, m ≤ k ∧ j = .int .i64 m ∧ Hid (Below W.heap.size W wi)) (fun j _ => k - (intOf j).toNat)
          case atStart => exact ⟨0, by omega, rfl, hBc.out⟩
          case round =>
            obtain ⟨m, hm, rfl, hBi⟩ := hrel
            by_cases hmk : m < k
            · have hj0 : (0 : Int) ≤ (m : Int) := by omega
              have hj6 : (m : Int) < 6 := by omega
              have hjk : (m : Int) < (k : Int) := by omega
              obtain ⟨⟨y0, y1, y2, y3⟩, hy⟩ : ∃ y, keysOf s h a m = y := ⟨_, rfl⟩
              have HY := Lib.hid hy
              obtain ⟨c0, c1, c2, c3⟩ := HC.out m (by omega)
              rw [hy] at c0 c1 c2 c3
              have f5 : ∀ n : Tx.Later W, (n.w.cell? ⟨g3, m * 4, none⟩ = some (.int .i64 y0) ∧ n.w.cell? ⟨g3, m * 4 + 1, none⟩ = some (.int .i64 y1) ∧ n.w.cell? ⟨g3, m * 4 + 2, none⟩ = some (.int .i64 y2) ∧ n.w.cell? ⟨g3, m * 4 + 3, none⟩ = some (.int .i64 y3)) := fun n => ⟨(Tx.blk_cell (n.block G3.out) _).trans c0, (Tx.blk_cell (n.block G3.out) _).trans c1, (Tx.blk_cell (n.block G3.out) _).trans c2, (Tx.blk_cell (n.block G3.out) _).trans c3⟩
              clear hy c0 c1 c2 c3
              go_upto_region 18 with fail
              go_cut [136] (fun c wx => c = .bool false ∧ Hid (Below W.heap.size W wx))
              case first =>
                by_cases hxy : (⟨x0, x1, x2, x3⟩ : KeyV) = ⟨y0, y1, y2, y3⟩
                · have hz : (⟨x0, x1, x2, x3⟩ : KeyV) = .zero := Classical.byContradiction fun hz => keys_unlike hlt hmk (by rw [HX.out]; exact hz) (by rw [HX.out, HY.out]; exact hxy)
                  rw [hz] at hxy
                  injection hz with z0 z1 z2 z3
                  injection hxy with t0 t1 t2 t3
                  subst z0; subst z1; subst z2; subst z3; subst t0; subst t1; subst t2; subst t3
                  have eX := fun w' => (Tx.eq_agg 0 0 0 0 0 0 0 0 w').trans (by rw [Tx.KeyV.same_self])
                  refine Tx.wp_region_later (W := W) hBi.out (by kernel_rfl) (by kernel_rfl) ?_
                  repeat (go_big_quiet_step (fail))
                  refine wpQuiet_nil ?_
                  rintro _ ⟨⟨w', hw'⟩, rfl⟩
                  have Hw' := Lib.hid hw'
                  clear hw'
                  go_wp2
                  go_meet
                  exact ⟨rfl, Hw'.out⟩
                · have eX := fun w' => (Tx.eq_agg x0 x1 x2 x3 y0 y1 y2 y3 w').trans (by rw [Tx.KeyV.same_not hxy])
                  clear hxy
                  refine Tx.wp_region_later (W := W) hBi.out (by kernel_rfl) (by kernel_rfl) ?_
                  repeat (go_big_quiet_step (fail))
                  refine wpQuiet_nil ?_
                  rintro _ ⟨⟨w', hw'⟩, rfl⟩
                  have Hw' := Lib.hid hw'
                  clear hw'
                  go_wp2
                  go_meet
                  exact ⟨rfl, Hw'.out⟩
              case rest =>
                obtain ⟨rfl, hBd⟩ := hcut
                go_wp2
                go_roundw
                case rel => exact ⟨m + 1, by omega, by go_num, hBd.out⟩
                case measure => simp [intOf]; omega
            · obtain rfl : m = k := by omega
              have hjk : ¬ (m : Int) < (m : Int) := by omega
              go_wp2
              go_roundw
              case rel => exact ⟨m + 1, by omega, by go_num, hBi.out⟩
              case measure => simp [intOf]; omega
      · obtain rfl : k = 6 := by omega
        clear hk hlt
        have H20 := Lib.hid hBr.out
        clear hBr
        go_upto_region 20 with fail
        go_cut [171] (fun c wx => c = .bool false ∧ Hid (Below W.heap.size W wx))
        case first =>
          have m2 := l2.out
          by_cases hz : (⟨p2, s2, h2, a2⟩ : KeyV) = .zero
          · injection hz with z0 z1 z2 z3
            subst z0; subst z1; subst z2; subst z3
            have eX := fun w' => (Tx.eq_agg 0 0 0 0 0 0 0 0 w').trans (by rw [Tx.KeyV.same_self])
            refine Tx.wp_region_later (W := W) H20.out (by kernel_rfl) (by kernel_rfl) ?_
            repeat (go_big_quiet_step (fail))
            refine wpQuiet_nil ?_
            rintro _ ⟨⟨w', hw'⟩, rfl⟩
            have Hw' := Lib.hid hw'
            clear hw'
            go_wp2
            go_meet
            exact ⟨rfl, Hw'.out⟩

          · have m3 := l3.out
            have m4 := l4.out
            have n2 : nextK ⟨p2, s2, h2, a2⟩ = ⟨p3, s3, h3, a3⟩ := (Tx.next_3 E2.out.symm).trans E3.out
            have n3 : nextK ⟨p3, s3, h3, a3⟩ = ⟨p4, s4, h4, a4⟩ := (Tx.next_4 E3.out.symm).trans E4.out
            have n4 : nextK ⟨p4, s4, h4, a4⟩ = ⟨p2, s2, h2, a2⟩ := (Tx.next_5 E4.out.symm).trans E2.out
            have e2 := fun w' => (Tx.eq_agg p2 s2 h2 a2 p2 s2 h2 a2 w').trans (by rw [Tx.KeyV.same_self])
            have e3 := fun w' => (Tx.eq_agg p3 s3 h3 a3 p3 s3 h3 a3 w').trans (by rw [Tx.KeyV.same_self])
            have e4 := fun w' => (Tx.eq_agg p4 s4 h4 a4 p4 s4 h4 a4 w').trans (by rw [Tx.KeyV.same_self])
            have eZ := fun w' => (Tx.eq_agg p2 s2 h2 a2 0 0 0 0 w').trans (by rw [show Tx.KeyV.same ⟨p2, s2, h2, a2⟩ ⟨0, 0, 0, 0⟩ = false from Tx.KeyV.same_not hz])
            have c2 : ∀ w' : World, Calls Try.prog 15 #[.agg #[.int .i64 p2, .int .i64 s2, .int .i64 h2, .int .i64 a2]] w' fun e w'' => e = .returned (.agg #[.int .i64 p3, .int .i64 s3, .int .i64 h3, .int .i64 a3]) ∧ Below w'.heap.size w' w'' := fun w' => by
              have h1 := Tx.NextKey_impl ⟨p2, s2, h2, a2⟩ w'
              rw [n2] at h1
              exact h1
            have c3 : ∀ w' : World, Calls Try.prog 15 #[.agg #[.int .i64 p3, .int .i64 s3, .int .i64 h3, .int .i64 a3]] w' fun e w'' => e = .returned (.agg #[.int .i64 p4, .int .i64 s4, .int .i64 h4, .int .i64 a4]) ∧ Below w'.heap.size w' w'' := fun w' => by
              have h1 := Tx.NextKey_impl ⟨p3, s3, h3, a3⟩ w'
              rw [n3] at h1
              exact h1
            have c4 : ∀ w' : World, Calls Try.prog 15 #[.agg #[.int .i64 p4, .int .i64 s4, .int .i64 h4, .int .i64 a4]] w' fun e w'' => e = .returned (.agg #[.int .i64 p2, .int .i64 s2, .int .i64 h2, .int .i64 a2]) ∧ Below w'.heap.size w' w'' := fun w' => by
              have h1 := Tx.NextKey_impl ⟨p4, s4, h4, a4⟩ w'
              rw [n4] at h1
              exact h1
            clear hz n2 n3 n4
            refine Tx.wp_region_later (W := W) H20.out (by kernel_rfl) (by kernel_rfl) ?_
            repeat (go_big_quiet_step (first | (go_at_call_of 15 (Value.int .i64 p2); exact Tx.calls_later (c2 _)) | (go_at_call_of 15 (Value.int .i64 p3); exact Tx.calls_later (c3 _)) | (go_at_call_of 15 (Value.int .i64 p4); exact Tx.calls_later (c4 _))))
            refine wpQuiet_nil ?_
            rintro _ ⟨⟨w', hw'⟩, rfl⟩
            have Hw' := Lib.hid hw'
            clear hw'
            go_wp2
            go_meet
            exact ⟨rfl, Hw'.out⟩

        case rest =>
          obtain ⟨rfl, H22⟩ := hcut
          go_upto_region 22 with fail
          go_cut [190] (fun c wx => c = .bool false ∧ Hid (Below W.heap.size W wx))
          case first =>
            have m0 := l0.out
            by_cases hz : (⟨p0, s0, h0, a0⟩ : KeyV) = .zero
            · injection hz with z0 z1 z2 z3
              subst z0; subst z1; subst z2; subst z3
              have eX := fun w' => (Tx.eq_agg 0 0 0 0 0 0 0 0 w').trans (by rw [Tx.KeyV.same_self])
              refine Tx.wp_region_later (W := W) H22.out (by kernel_rfl) (by kernel_rfl) ?_
              repeat (go_big_quiet_step (fail))
              refine wpQuiet_nil ?_
              rintro _ ⟨⟨w', hw'⟩, rfl⟩
              have Hw' := Lib.hid hw'
              clear hw'
              go_wp2
              go_meet
              exact ⟨rfl, Hw'.out⟩

            · have hz0 : keysOf s h a 0 ≠ .zero := fun e => hz (E0.out.symm.trans e)
              have eZ := fun w' => (Tx.eq_agg p0 s0 h0 a0 0 0 0 0 w').trans (by rw [show Tx.KeyV.same ⟨p0, s0, h0, a0⟩ ⟨0, 0, 0, 0⟩ = false from Tx.KeyV.same_not hz])
              by_cases hs : s < 100000
              · have hs0 : -1 ≤ s := HSB.out.1
                have hd : decide (s < 100000) = true := decide_eq_true hs
                obtain ⟨⟨y0, y1, y2, y3⟩, hy⟩ : ∃ y, rightK ⟨1, s + 1, h, 0⟩ = y := ⟨_, rfl⟩
                have hne : (⟨y0, y1, y2, y3⟩ : KeyV) ≠ ⟨p0, s0, h0, a0⟩ := fun e => early_unlike hz0 (hy.trans (e.trans E0.out.symm))
                have eX := fun w' => (Tx.eq_agg y0 y1 y2 y3 p0 s0 h0 a0 w').trans (by rw [Tx.KeyV.same_not hne])
                have cE : ∀ w' : World, Calls Try.prog 16 #[.int .i64 (s + 1), .int .i64 h] w' fun e w'' => e = .returned (.agg #[.int .i64 y0, .int .i64 y1, .int .i64 y2, .int .i64 y3]) ∧ Below w'.heap.size w' w'' := fun w' => by
                  have h1 := Tx.EarlyKey_impl (s + 1) h w'
                  rw [hy] at h1
                  exact h1
                clear hz hz0 hne hy
                refine Tx.wp_region_later (W := W) H22.out (by kernel_rfl) (by kernel_rfl) ?_
                repeat (go_big_quiet_step ((go_at_call 16; exact Tx.calls_later (cE _))))
                refine wpQuiet_nil ?_
                rintro _ ⟨⟨w', hw'⟩, rfl⟩
                have Hw' := Lib.hid hw'
                clear hw'
                go_wp2
                go_meet
                exact ⟨rfl, Hw'.out⟩

              · have hd : decide (s < 100000) = false := decide_eq_false hs
                clear hz hz0
                refine Tx.wp_region_later (W := W) H22.out (by kernel_rfl) (by kernel_rfl) ?_
                repeat (go_big_quiet_step (fail))
                refine wpQuiet_nil ?_
                rintro _ ⟨⟨w', hw'⟩, rfl⟩
                have Hw' := Lib.hid hw'
                clear hw'
                go_wp2
                go_meet
                exact ⟨rfl, Hw'.out⟩

          case rest =>
            obtain ⟨rfl, H24⟩ := hcut
            have m1 := R1.out
            have m2 := R2.out
            go_upto_region 24 with fail
            by_cases hz : (⟨nu, ns, nh, na⟩ : KeyV) = .zero
            · injection hz with z0 z1 z2 z3
              subst z0; subst z1; subst z2; subst z3
              have eX := fun w' => (Tx.eq_agg 0 0 0 0 0 0 0 0 w').trans (by rw [Tx.KeyV.same_self])
              refine Tx.wp_region_later (W := W) H24.out (by kernel_rfl) (by kernel_rfl) ?_
              repeat (go_big_quiet_step (fail))
              refine wpQuiet_nil ?_
              rintro _ ⟨⟨w', hw'⟩, rfl⟩
              have Hw' := Lib.hid hw'
              clear hw'
              go_wp2
              go_ret
              exact ⟨rfl, (KW.out.go Hw'.out).bel⟩
            · have eZ := fun w' => (Tx.eq_agg nu ns nh na 0 0 0 0 w').trans (by rw [show Tx.KeyV.same ⟨nu, ns, nh, na⟩ ⟨0, 0, 0, 0⟩ = false from Tx.KeyV.same_not hz])
              have eX := fun w' => (Tx.eq_agg ku ks kh ka ku ks kh ka w').trans (by rw [Tx.KeyV.same_self])
              have h3 := next_thrice (k := ⟨ku, ks, kh, ka⟩) (by rw [HN.out]; exact hz)
              rw [HN.out] at h3
              obtain ⟨⟨y0, y1, y2, y3⟩, hy⟩ : ∃ y, nextK ⟨nu, ns, nh, na⟩ = y := ⟨_, rfl⟩
              rw [hy] at h3
              have c1 : ∀ w' : World, Calls Try.prog 15 #[.agg #[.int .i64 nu, .int .i64 ns, .int .i64 nh, .int .i64 na]] w' fun e w'' => e = .returned (.agg #[.int .i64 y0, .int .i64 y1, .int .i64 y2, .int .i64 y3]) ∧ Below w'.heap.size w' w'' := fun w' => by
                have h1 := Tx.NextKey_impl ⟨nu, ns, nh, na⟩ w'
                rw [hy] at h1
                exact h1
              have c2 : ∀ w' : World, Calls Try.prog 15 #[.agg #[.int .i64 y0, .int .i64 y1, .int .i64 y2, .int .i64 y3]] w' fun e w'' => e = .returned (.agg #[.int .i64 ku, .int .i64 ks, .int .i64 kh, .int .i64 ka]) ∧ Below w'.heap.size w' w'' := fun w' => by
                have h1 := Tx.NextKey_impl ⟨y0, y1, y2, y3⟩ w'
                rw [h3] at h1
                exact h1
              clear hz h3 hy
              refine Tx.wp_region_later (W := W) H24.out (by kernel_rfl) (by kernel_rfl) ?_
              repeat (go_big_quiet_step (first | (go_at_call_of 15 (Value.int .i64 nu); exact Tx.calls_later (c1 _)) | (go_at_call_of 15 (Value.int .i64 y0); exact Tx.calls_later (c2 _))))
              refine wpQuiet_nil ?_
              rintro _ ⟨⟨w', hw'⟩, rfl⟩
              have Hw' := Lib.hid hw'
              clear hw'
              go_wp2
              go_ret
              exact ⟨rfl, (KW.out.go Hw'.out).bel⟩

theorem own : ownKnob Try.prog.godebug = none := by kernel_rfl
theorem laidOut : laidOutB Try.prog = true := by kernel_rfl

set_option maxRecDepth 100000 in
theorem lifted (os : Os) (started : os.Started) (H : Type) (enc : TypeId × Value → H) :
    ReturnsInHanded {} Try.checked os 3 .any (Rows.fnKeysSpec.pre6 enc Try.prog Try.f3 Rows.fnKeysRow.domain false) (Rows.fnKeysSpec.post enc Try.prog Try.f3 false true false false) := by
  refine returnsInHanded_of_change (C := Try.checked) own started (by kernel_rfl) Try.func3
    (ChangeSpec.witness6 (enc := enc) (C := Try.checked) false ⟨#[], #[.slice none 0 0], []⟩ 8 (by kernel_rfl) (by kernel_rfl) (by kernel_rfl) (by kernel_rfl)) ?_
  intro W base args ds gs before hval0 hW hcnd _
  have hval : ∀ (j : Nat) t v, Try.f3.params[j]? = some t → args[j]? = some v → Value.okWide Try.prog W .any base t v := hval0
  have hW' := hW
  obtain ⟨p, q, hA0, hV, rfl, hfz, hnd⟩ := hW
  have hA : DataW.TrodAll enc Try.prog W 0 (fun _ => true) true Try.f3.params.toList args.toList ds p := hA0
  rw [Try.params3] at hA hval
  obtain ⟨v0, vs0, d0, ds0, p0, q0, hargs, rfl, rfl, h0, r0⟩ := trodAll_cons hA
  obtain ⟨rfl, rfl, rfl⟩ := trodAll_nil r0
  obtain rfl : args = #[v0] := by cases args; simp_all
  obtain ⟨rfl, rfl⟩ := trodVars_none hV
  have k0 := h0
  have lt0 : ∀ x ∈ p0, x.block < W.heap.size := by obtain ⟨m, hm⟩ := k0; exact DataW.trod_lt m _ _ _ hm
  obtain ⟨a0, len0, cap0, rfl⟩ := okWide_slice Try.underlying22 (hval 0 22 v0 rfl rfl)
  have w0 : Tx.BytesAt W W.heap.size a0 len0 ∧ len0 ≤ maxLen := by
    obtain ⟨fuel, hf⟩ := h0
    rcases open_ints Try.underlying22 Try.underlying5 (by kernel_rfl) hf with ⟨hcs, _⟩ | ⟨x, l, c, zs, hcs, _, hl, hm, hz, _, hcell, hwz⟩
    · simp [Value.cells] at hcs
      obtain ⟨rfl, rfl, rfl⟩ := hcs
      exact ⟨fun h => absurd h (by omega), by unfold maxLen; omega⟩
    · simp [Value.cells] at hcs
      obtain ⟨rfl, rfl, rfl⟩ := hcs
      simp only [if_true] at hz
      exact ⟨Tx.bytesAt_of_ints (by omega) hcell fun n hn => bounds_u8 (hwz n hn), by omega⟩
  clear hA0 hval0
  refine (walk W a0 len0 cap0 w0.1 w0.2).mono fun e W' ⟨he, bel⟩ => ?_
  subst he
  exact ⟨_, rfl, _, _, _, [], _, [], hW', trodAll_mk1 (shut_bool Try.underlying4 _), (trodAll_cons_mk (Below.trod laidOut (by kernel_rfl) (of_decide_eq_true (by kernel_rfl)) k0 bel lt0) trodAll_mk0), rfl, bel.frame _, fun h => by cases h⟩

theorem over : Rows.fnKeysRow.holds Try.pinned (OpenSpec.ofChange Rows.fnKeysSpec) :=
  OpenClaim.holds_of_wide 3 Try.f3 rfl rfl rfl rfl rfl rfl rfl ⟨rfl, rfl, rfl, rfl, rfl⟩ rfl rfl rfl rfl rfl (by kernel_rfl) Try.func3 (by kernel_rfl)
    (of_decide_eq_true (by kernel_rfl)) (by unfold Func.isWrapper; first | (rw [if_pos (by decide +kernel)]; kernel_rfl) | (rw [if_neg (by decide +kernel)]; exact ⟨rfl, rfl⟩))
    (fun os started H enc _ => lifted os started H enc)

end Go.Proofs.Ytdppkdldjkpmpaa.fnKeys

namespace Go.Proofs.Ytdppkdldjkpmpaa
theorem fnKeys_proved : Rows.FnKeysSaid := fnKeys.over
#print axioms fnKeys_proved
end Go.Proofs.Ytdppkdldjkpmpaa

/-
  The law FnBoxes returns true at every code, and the code reads behind the call as it read before: a box is opened by its very key and number, by no other ones, and not when it is spoilt. No condition.
-/
import Derived.Test.YtfllkiidjahmjaaRows
import Derived.WalkKit
import Derived.ProofKit
import Derived.OpenShut
import Derived.ShutString
import Derived.ChangeOld
import Derived.Below
import Derived.SliceStrings
import Derived.Lib.SmallJoins
import Derived.Deep.DeepCutAuto
import Derived.Deep.RegionWith
import Derived.Test.YtfllkiidjahmjaaDraw4
import Derived.Test.YtfllkiidjahmjaaImpl4
import Derived.Test.YtfllkiidjahmjaaRegionL
namespace Go.Proofs.Ytfllkiidjahmjaa.fnBoxes
open Go.ChangeShapes Go.WideShapes Go.ChangeAt Go.RowKit
open Go.ChangeMaps (open_string shut_string)
set_option linter.unusedVariables false

open Tx (KeyV BoxV)

/-- What is locked has a secret and a number in their ranges. -/
theorem ok_range {k : KeyV} {no : Int} {t : ByteArray} (h : Tx.boxOkB ⟨k, no, t, false⟩ = true) : 0 ≤ k.s ∧ k.s ≤ 100000 ∧ 0 ≤ no ∧ no ≤ 1000 := by
  simp only [Tx.boxOkB, Tx.keyOkB, Bool.and_eq_true] at h
  have h1 := Tx.inB_true h.1.2.1
  have h2 := Tx.inB_true h.2.1
  exact ⟨h1.1, h1.2, h2.1, h2.2⟩

set_option maxRecDepth 100000 in
set_option maxHeartbeats 8000000 in
theorem walk (w : World) (a0 : Option Addr) (len0 cap0 : Nat) (hb : Tx.BytesAt w w.heap.size a0 len0) (hl : len0 ≤ maxLen) :
    Calls Try.prog 3 #[.slice a0 len0 cap0] w fun e w' => e = .returned (.bool true) ∧ Below w.heap.size w w' := by
  unfold maxLen at hl
  have HB := Lib.hid hb
  clear hb
  by_cases hbig : 4096 < len0
  · have hd : decide (4096 < len0) = true := by simpa using hbig
    go_enter Try.func3, Try.ntmps3
    go_wp2_with fail
    refine (Tx.big_any _ _ _ _).mono ?_
    rintro e w' ⟨rfl, rfl⟩
    go_wp2
    go_ret
    exact ⟨rfl, Below.refl _ _⟩
  · have hd : decide (4096 < len0) = false := by simpa using hbig
    have hn : len0 ≤ 4096 := by omega
    clear hbig
    go_enter Try.func3, Try.ntmps3
    go_wp2_with fail
    refine (Tx.big_any _ _ _ _).mono ?_
    rintro e w' ⟨rfl, rfl⟩
    go_wp2_with fail
    refine (Tx.DrawLocked_any _ _ _ _ hn HB.out).mono ?_
    rintro e w1 ⟨⟨ku, ks, kh, ka⟩, kn, kt, rfl, b1⟩
    have HK : Hid (Tx.KeyV.val ⟨ku, ks, kh, ka⟩ = .agg #[.int .i64 ku, .int .i64 ks, .int .i64 kh, .int .i64 ka]) := rfl
    rw [HK.out]
    have K1 := Tx.Kp.start.go b1
    have HB1 := Lib.hid (Tx.bytes_new (HB.out.kept b1) (.cells #[.int .i64 ku, .int .i64 ks, .int .i64 kh, .int .i64 ka] 25))
    obtain ⟨W1, hW1⟩ : ∃ W, w1.alloc (.cells #[.int .i64 ku, .int .i64 ks, .int .i64 kh, .int .i64 ka] 25) = W := ⟨_, rfl⟩
    have K1' := K1.alloc (.cells #[.int .i64 ku, .int .i64 ks, .int .i64 kh, .int .i64 ka] 25)
    have GK1 := Lib.hid (Tx.heap1 w1 (.cells #[.int .i64 ku, .int .i64 ks, .int .i64 kh, .int .i64 ka] 25))
    rw [hW1] at HB1 K1' GK1
    clear b1 K1 HB
    obtain ⟨⟨f0, f1, f2, f3⟩, _⟩ := Tx.blk4 GK1.out
    go_wp2_with fail
    clear hW1 f0 f1 f2 f3
    refine (Tx.Locked_impl ⟨ku, ks, kh, ka⟩ kn kt _).mono ?_
    rintro e w2 ⟨rfl, b2⟩
    obtain ⟨⟨⟨bu, bs, bh, ba⟩, bn, bt, bp⟩, hx⟩ : ∃ x, Tx.lockV ⟨⟨ku, ks, kh, ka⟩, kn, kt, false⟩ = x := ⟨_, rfl⟩
    obtain ⟨ok, hok⟩ : ∃ x, Tx.boxOkB ⟨⟨ku, ks, kh, ka⟩, kn, kt, false⟩ = x := ⟨_, rfl⟩
    have HX := Lib.hid hx
    have HOK := Lib.hid hok
    have HXV : Hid (Tx.BoxV.val ⟨⟨bu, bs, bh, ba⟩, bn, bt, bp⟩ = .agg #[.int .i64 bu, .int .i64 bs, .int .i64 bh, .int .i64 ba, .int .i64 bn, .string bt, .bool bp]) := rfl
    rw [hx, hok, HXV.out]
    clear hx hok
    obtain ⟨W2, hW2⟩ : ∃ W, w2.alloc (.cells #[.int .i64 bu, .int .i64 bs, .int .i64 bh, .int .i64 ba, .int .i64 bn, .string bt, .bool bp] 29) = W := ⟨_, rfl⟩
    have K2 := (K1'.go b2).alloc (.cells #[.int .i64 bu, .int .i64 bs, .int .i64 bh, .int .i64 ba, .int .i64 bn, .string bt, .bool bp] 29)
    have HB2 := Lib.hid (Tx.bytes_new (HB1.out.kept b2) (.cells #[.int .i64 bu, .int .i64 bs, .int .i64 bh, .int .i64 ba, .int .i64 bn, .string bt, .bool bp] 29))
    have GK2 := Lib.hid (Tx.alloc_blk (o := .cells #[.int .i64 bu, .int .i64 bs, .int .i64 bh, .int .i64 ba, .int .i64 bn, .string bt, .bool bp] 29) (Tx.blk_on b2 GK1.out))
    have GB2 := Lib.hid (Tx.heap1 w2 (.cells #[.int .i64 bu, .int .i64 bs, .int .i64 bh, .int .i64 ba, .int .i64 bn, .string bt, .bool bp] 29))
    rw [hW2] at K2 HB2 GK2 GB2
    clear b2 K1' HB1 GK1
    go_wp2_with fail
    clear hW2
    refine (Tx.DrawOpened_any _ _ _ _ hn HB2.out).mono ?_
    rintro e w3 ⟨⟨⟨cu, cs, ch, ca⟩, cn, ct, cp⟩, ⟨yu, ys, yh, ya⟩, m, rfl, b3⟩
    have HC : Hid (Tx.BoxV.val ⟨⟨cu, cs, ch, ca⟩, cn, ct, cp⟩ = .agg #[.int .i64 cu, .int .i64 cs, .int .i64 ch, .int .i64 ca, .int .i64 cn, .string ct, .bool cp]) := rfl
    have HY : Hid (Tx.KeyV.val ⟨yu, ys, yh, ya⟩ = .agg #[.int .i64 yu, .int .i64 ys, .int .i64 yh, .int .i64 ya]) := rfl
    rw [HC.out, HY.out]
    obtain ⟨W3, hW3⟩ : ∃ W, (w3.alloc (.cells #[.int .i64 cu, .int .i64 cs, .int .i64 ch, .int .i64 ca, .int .i64 cn, .string ct, .bool cp] 29)).alloc (.cells #[.int .i64 yu, .int .i64 ys, .int .i64 yh, .int .i64 ya] 25) = W := ⟨_, rfl⟩
    have K3 := ((K2.go b3).alloc (.cells #[.int .i64 cu, .int .i64 cs, .int .i64 ch, .int .i64 ca, .int .i64 cn, .string ct, .bool cp] 29)).alloc (.cells #[.int .i64 yu, .int .i64 ys, .int .i64 yh, .int .i64 ya] 25)
    have GK3 := Lib.hid (Tx.alloc_blk (o := .cells #[.int .i64 yu, .int .i64 ys, .int .i64 yh, .int .i64 ya] 25) (Tx.alloc_blk (o := .cells #[.int .i64 cu, .int .i64 cs, .int .i64 ch, .int .i64 ca, .int .i64 cn, .string ct, .bool cp] 29) (Tx.blk_on b3 GK2.out)))
    have GB3 := Lib.hid (Tx.alloc_blk (o := .cells #[.int .i64 yu, .int .i64 ys, .int .i64 yh, .int .i64 ya] 25) (Tx.alloc_blk (o := .cells #[.int .i64 cu, .int .i64 cs, .int .i64 ch, .int .i64 ca, .int .i64 cn, .string ct, .bool cp] 29) (Tx.blk_on b3 GB2.out)))
    have GC3 := Lib.hid (Tx.heap2a w3 (.cells #[.int .i64 cu, .int .i64 cs, .int .i64 ch, .int .i64 ca, .int .i64 cn, .string ct, .bool cp] 29) (.cells #[.int .i64 yu, .int .i64 ys, .int .i64 yh, .int .i64 ya] 25))
    have GY3 := Lib.hid (Tx.heap2b w3 (.cells #[.int .i64 cu, .int .i64 cs, .int .i64 ch, .int .i64 ca, .int .i64 cn, .string ct, .bool cp] 29) (.cells #[.int .i64 yu, .int .i64 ys, .int .i64 yh, .int .i64 ya] 25))
    rw [hW3] at K3 GK3 GB3 GC3 GY3
    clear b3 K2 HB2 GK2 GB2
    obtain ⟨⟨f0, f1, f2, f3, f4, f5, f6⟩, _⟩ := Tx.blk7 GC3.out
    obtain ⟨⟨g0, g1, g2, g3⟩, _⟩ := Tx.blk4 GY3.out
    go_wp2_with fail
    clear hW3 f0 f1 f2 f3 f4 f5 f6 g0 g1 g2 g3
    refine (Tx.Opened_impl ⟨⟨cu, cs, ch, ca⟩, cn, ct, cp⟩ ⟨yu, ys, yh, ya⟩ m _).mono ?_
    rintro e w4 ⟨rfl, b4⟩
    obtain ⟨ot, hot⟩ : ∃ x, Tx.openT ⟨⟨cu, cs, ch, ca⟩, cn, ct, cp⟩ ⟨yu, ys, yh, ya⟩ m = x := ⟨_, rfl⟩
    obtain ⟨ob, hob⟩ : ∃ x, Tx.openB ⟨⟨cu, cs, ch, ca⟩, cn, ct, cp⟩ ⟨yu, ys, yh, ya⟩ m = x := ⟨_, rfl⟩
    have HOT := Lib.hid hot
    have HOB := Lib.hid hob
    rw [hot, hob]
    clear hot hob
    have K4 := K3.go b4
    have GK4 := Lib.hid (Tx.blk_on b4 GK3.out)
    have GB4 := Lib.hid (Tx.blk_on b4 GB3.out)
    have GC4 := Lib.hid (Tx.blk_on b4 GC3.out)
    have GY4 := Lib.hid (Tx.blk_on b4 GY3.out)
    clear b4 K3 GK3 GB3 GC3 GY3
    obtain ⟨⟨f0, f1, f2, f3⟩, _⟩ := Tx.blk4 GK4.out
    go_wp2_with fail
    clear f0 f1 f2 f3
    refine (Tx.Locked_spec ⟨ku, ks, kh, ka⟩ kn kt _).mono ?_
    rintro e w5 ⟨rfl, b5⟩
    rw [HX.out, HOK.out, HXV.out]
    obtain ⟨W, hW⟩ : ∃ W, w5.alloc (.cells #[.int .i64 bu, .int .i64 bs, .int .i64 bh, .int .i64 ba, .int .i64 bn, .string bt, .bool bp] 29) = W := ⟨_, rfl⟩
    have KW := Lib.hid ((K4.go b5).alloc (.cells #[.int .i64 bu, .int .i64 bs, .int .i64 bh, .int .i64 ba, .int .i64 bn, .string bt, .bool bp] 29))
    have GK := Lib.hid (Tx.alloc_blk (o := .cells #[.int .i64 bu, .int .i64 bs, .int .i64 bh, .int .i64 ba, .int .i64 bn, .string bt, .bool bp] 29) (Tx.blk_on b5 GK4.out))
    have GB := Lib.hid (Tx.alloc_blk (o := .cells #[.int .i64 bu, .int .i64 bs, .int .i64 bh, .int .i64 ba, .int .i64 bn, .string bt, .bool bp] 29) (Tx.blk_on b5 GB4.out))
    have GC := Lib.hid (Tx.alloc_blk (o := .cells #[.int .i64 bu, .int .i64 bs, .int .i64 bh, .int .i64 ba, .int .i64 bn, .string bt, .bool bp] 29) (Tx.blk_on b5 GC4.out))
    have GY := Lib.hid (Tx.alloc_blk (o := .cells #[.int .i64 bu, .int .i64 bs, .int .i64 bh, .int .i64 ba, .int .i64 bn, .string bt, .bool bp] 29) (Tx.blk_on b5 GY4.out))
    have GX := Lib.hid (Tx.heap1 w5 (.cells #[.int .i64 bu, .int .i64 bs, .int .i64 bh, .int .i64 ba, .int .i64 bn, .string bt, .bool bp] 29))
    rw [hW] at KW GK GB GC GY GX
    clear b5 K4 GK4 GB4 GC4 GY4
    go_wp2_with fail
    clear hW
    generalize w1.heap.size = gk at GK ⊢
    generalize w2.heap.size = gb at GB ⊢
    generalize w3.heap.size = gc at GC GY ⊢
    generalize w5.heap.size = gx at GX ⊢
    have rB : Hid (∀ n : Tx.Later W, (n.w.cell? ⟨gb, 0, none⟩ = some (.int .i64 bu) ∧ n.w.cell? ⟨gb, 1, none⟩ = some (.int .i64 bs) ∧ n.w.cell? ⟨gb, 2, none⟩ = some (.int .i64 bh) ∧ n.w.cell? ⟨gb, 3, none⟩ = some (.int .i64 ba) ∧ n.w.cell? ⟨gb, 4, none⟩ = some (.int .i64 bn) ∧ n.w.cell? ⟨gb, 5, none⟩ = some (.string bt) ∧ n.w.cell? ⟨gb, 6, none⟩ = some (.bool bp))) := fun n => (Tx.blk7 (n.block GB.out)).1
    have rX : Hid (∀ n : Tx.Later W, (n.w.cell? ⟨gx, 0, none⟩ = some (.int .i64 bu) ∧ n.w.cell? ⟨gx, 1, none⟩ = some (.int .i64 bs) ∧ n.w.cell? ⟨gx, 2, none⟩ = some (.int .i64 bh) ∧ n.w.cell? ⟨gx, 3, none⟩ = some (.int .i64 ba) ∧ n.w.cell? ⟨gx, 4, none⟩ = some (.int .i64 bn) ∧ n.w.cell? ⟨gx, 5, none⟩ = some (.string bt) ∧ n.w.cell? ⟨gx, 6, none⟩ = some (.bool bp))) := fun n => (Tx.blk7 (n.block GX.out)).1
    have rC : Hid (∀ n : Tx.Later W, (n.w.cell? ⟨gc, 0, none⟩ = some (.int .i64 cu) ∧ n.w.cell? ⟨gc, 1, none⟩ = some (.int .i64 cs) ∧ n.w.cell? ⟨gc, 2, none⟩ = some (.int .i64 ch) ∧ n.w.cell? ⟨gc, 3, none⟩ = some (.int .i64 ca) ∧ n.w.cell? ⟨gc, 4, none⟩ = some (.int .i64 cn) ∧ n.w.cell? ⟨gc, 5, none⟩ = some (.string ct) ∧ n.w.cell? ⟨gc, 6, none⟩ = some (.bool cp))) := fun n => (Tx.blk7 (n.block GC.out)).1
    have rY : Hid (∀ n : Tx.Later W, (n.w.cell? ⟨gc + 1, 0, none⟩ = some (.int .i64 yu) ∧ n.w.cell? ⟨gc + 1, 1, none⟩ = some (.int .i64 ys) ∧ n.w.cell? ⟨gc + 1, 2, none⟩ = some (.int .i64 yh) ∧ n.w.cell? ⟨gc + 1, 3, none⟩ = some (.int .i64 ya))) := fun n => (Tx.blk4 (n.block GY.out)).1
    have s1 := rB.out
    have s2 := rX.out
    have s3 := rC.out
    have eB := Tx.eq_box_self bu bs bh ba bn bt bp
    have eS := Tx.eq_box_self cu cs ch ca cn ct true
    refine Tx.wp_region_later (W := W) (Below.refl _ _) (by kernel_rfl) (by kernel_rfl) ?_
    repeat (go_big_quiet_step (first | (go_at_call 14; exact Tx.calls_later (Tx.BoxOk_impl ⟨⟨cu, cs, ch, ca⟩, cn, ct, cp⟩ _)) | (go_at_call 15; exact Tx.calls_later (Tx.BoxOk_spec ⟨⟨cu, cs, ch, ca⟩, cn, ct, cp⟩ _)) | (go_at_call 16; exact Tx.calls_later (v := .agg #[.int .i64 cu, .int .i64 cs, .int .i64 ch, .int .i64 ca, .int .i64 cn, .string ct, .bool true]) (Tx.Spoil_impl ⟨⟨cu, cs, ch, ca⟩, cn, ct, cp⟩ _)) | (go_at_call 17; exact Tx.calls_later (v := .agg #[.int .i64 cu, .int .i64 cs, .int .i64 ch, .int .i64 ca, .int .i64 cn, .string ct, .bool true]) (Tx.Spoil_spec ⟨⟨cu, cs, ch, ca⟩, cn, ct, cp⟩ _))))
    refine wpQuiet_nil ?_
    rintro _ ⟨⟨w6, b6⟩, rfl⟩
    have B6 := Lib.hid b6
    clear s1 s2 s3 eB eS b6
    obtain ⟨⟨f0, f1, f2, f3, f4, f5, f6⟩, _⟩ := Tx.blk7 (Tx.blk_on B6.out GC.out)
    obtain ⟨⟨g0, g1, g2, g3⟩, _⟩ := Tx.blk4 (Tx.blk_on B6.out GY.out)
    go_wp2_with fail
    clear f0 f1 f2 f3 f4 f5 f6 g0 g1 g2 g3
    refine (Tx.Opened_spec ⟨⟨cu, cs, ch, ca⟩, cn, ct, cp⟩ ⟨yu, ys, yh, ya⟩ m _).mono ?_
    rintro e w7 ⟨rfl, b7⟩
    rw [HOT.out, HOB.out]
    have B7 := Lib.hid (B6.out.trans (b7.mono B6.out.size))
    clear b7
    go_upto_region 11 with fail
    go_cut [130] (fun c wx => c = .bool false ∧ wx = w7)
    case first =>
      obtain ⟨⟨f0, f1, f2, f3, f4, f5, f6⟩, _⟩ := Tx.blk7 (Tx.blk_on B7.out GC.out)
      obtain ⟨⟨g0, g1, g2, g3⟩, _⟩ := Tx.blk4 (Tx.blk_on B7.out GY.out)
      cases ob with
      | false =>
        have h0 := (Tx.open_false HOB.out).symm.trans HOT.out
        subst h0
        go_wp2
        go_meet
        exact ⟨rfl, rfl⟩
      | true =>
        obtain ⟨h0, h1, h2, h3⟩ := Tx.open_true HOB.out
        have h4 := h3.symm.trans HOT.out
        dsimp only at h0 h1 h2 h4
        clear h3
        injection h0 with z0 z1 z2 z3
        subst z0; subst z1; subst z2; subst z3; subst h1; subst h2; subst h4
        have eY := fun w' => (Tx.eq_agg cu cs ch ca cu cs ch ca w').trans (by rw [Tx.KeyV.same_self])
        go_wp2
        go_meet
        exact ⟨rfl, rfl⟩
    case rest =>
      obtain ⟨rfl, rfl⟩ := hcut
      have s3 := rC.out
      have s4 := rY.out
      have cO : ∀ w' : World, Calls Try.prog 12 #[.agg #[.int .i64 cu, .int .i64 cs, .int .i64 ch, .int .i64 ca, .int .i64 cn, .string ct, .bool true], .agg #[.int .i64 yu, .int .i64 ys, .int .i64 yh, .int .i64 ya], .int .i64 m] w' fun e w'' => e = .returned (.tuple #[.string ⟨#[]⟩, .bool false]) ∧ Below w'.heap.size w' w'' := fun w' => by
        have h1 := Tx.Opened_impl (Tx.BoxV.spoil ⟨⟨cu, cs, ch, ca⟩, cn, ct, cp⟩) ⟨yu, ys, yh, ya⟩ m w'
        rw [Tx.open_spoilt, Tx.open_false (Tx.open_spoilt _ _ _)] at h1
        exact h1
      go_upto_region 13 with fail
      refine Tx.wp_region_later (W := W) B7.out (by kernel_rfl) (by kernel_rfl) ?_
      repeat (go_big_quiet_step (first | (go_at_call 16; exact Tx.calls_later (v := .agg #[.int .i64 cu, .int .i64 cs, .int .i64 ch, .int .i64 ca, .int .i64 cn, .string ct, .bool true]) (Tx.Spoil_impl ⟨⟨cu, cs, ch, ca⟩, cn, ct, cp⟩ _)) | (go_at_call 12; exact Tx.calls_later (cO _))))
      refine wpQuiet_nil ?_
      rintro _ ⟨⟨w8, b8⟩, rfl⟩
      have B8 := Lib.hid b8
      clear b8 s3 s4 cO
      cases ok with
      | false =>
        have h0 : Tx.lockV ⟨⟨ku, ks, kh, ka⟩, kn, kt, false⟩ = .zero := by unfold Tx.lockV; rw [HOK.out]; rfl
        have h1 := h0.symm.trans HX.out
        clear h0
        injection h1 with h2 z4 z5 z6
        injection h2 with z0 z1 z2 z3
        subst z0; subst z1; subst z2; subst z3; subst z4; subst z5; subst z6
        obtain ⟨⟨f0, f1, f2, f3, f4, f5, f6⟩, _⟩ := Tx.blk7 (Tx.blk_on B8.out GB.out)
        have eZ := Tx.eq_box_self 0 0 0 0 0 ⟨#[]⟩ false
        go_wp2
        go_ret
        exact ⟨rfl, (KW.out.go B8.out).bel⟩
      | true =>
        have h0 : Tx.lockV ⟨⟨ku, ks, kh, ka⟩, kn, kt, false⟩ = ⟨⟨ku, ks, kh, ka⟩, kn, kt, false⟩ := by unfold Tx.lockV; rw [HOK.out]; rfl
        have h1 := h0.symm.trans HX.out
        clear h0
        injection h1 with h2 z4 z5 z6
        injection h2 with z0 z1 z2 z3
        subst z0; subst z1; subst z2; subst z3; subst z4; subst z5; subst z6
        obtain ⟨⟨f0, f1, f2, f3, f4, f5, f6⟩, _⟩ := Tx.blk7 (Tx.blk_on B8.out GB.out)
        obtain ⟨⟨g0, g1, g2, g3⟩, _⟩ := Tx.blk4 (Tx.blk_on B8.out GK.out)
        go_wp2_with fail
        clear f0 f1 f2 f3 f4 f5 f6 g0 g1 g2 g3
        refine (Tx.Opened_impl ⟨⟨ku, ks, kh, ka⟩, kn, kt, false⟩ ⟨ku, ks, kh, ka⟩ kn _).mono ?_
        rintro e w9 ⟨rfl, b9⟩
        rw [(Tx.open_own HOK.out).1, (Tx.open_own HOK.out).2]
        have B9 := Lib.hid (B8.out.trans (b9.mono B8.out.size))
        clear b9
        obtain ⟨hs0, hs1, hn0, hn1⟩ := ok_range HOK.out
        dsimp only at hs0 hs1
        obtain ⟨W10, hW10⟩ : ∃ W', w9.alloc (.cells #[.int .i64 ku, .int .i64 ks, .int .i64 kh, .int .i64 ka] 25) = W' := ⟨_, rfl⟩
        have GB9 := Lib.hid (Tx.blk_on B9.out GB.out)
        have GK9 := Lib.hid (Tx.blk_on B9.out GK.out)
        have ne1 : ¬ gb = w9.heap.size := by have := Tx.blk_in GB9.out; omega
        have ne2 : ¬ gk = w9.heap.size := by have := Tx.blk_in GK9.out; omega
        have GB10 := Lib.hid (Tx.alloc_blk (o := .cells #[.int .i64 ku, .int .i64 ks, .int .i64 kh, .int .i64 ka] 25) GB9.out)
        have GK10 := Lib.hid (Tx.alloc_blk (o := .cells #[.int .i64 ku, .int .i64 ks, .int .i64 kh, .int .i64 ka] 25) GK9.out)
        have GO10 := Lib.hid (Tx.heap1 w9 (.cells #[.int .i64 ku, .int .i64 ks, .int .i64 kh, .int .i64 ka] 25))
        have K10 := (KW.out.go B9.out).alloc (.cells #[.int .i64 ku, .int .i64 ks, .int .i64 kh, .int .i64 ka] 25)
        have hz10 : w.heap.size ≤ w9.heap.size := (KW.out.go B9.out).bel.size
        obtain ⟨⟨e0, e1, e2, e3⟩, _⟩ := Tx.blk4 GK9.out
        rw [hW10] at GB10 GK10 GO10 K10
        obtain ⟨⟨f0, f1, f2, f3, f4, f5, f6⟩, _⟩ := Tx.blk7 GB10.out
        obtain ⟨⟨g0, g1, g2, g3⟩, _⟩ := Tx.blk4 GK10.out
        obtain ⟨⟨d0, d1, d2, d3⟩, q0, q1, q2, q3⟩ := Tx.blk4 GO10.out
        go_wp2_with fail
        clear hW10
        have ho : Tx.openB ⟨⟨ku, ks, kh, ka⟩, kn, kt, false⟩ ⟨ku, (ks + 1) % 100000, kh, ka⟩ kn = false := Tx.open_other (by dsimp only; omega)
        have hl8 : Tx.openB ⟨⟨ku, ks, kh, ka⟩, kn, kt, false⟩ ⟨ku, ks, kh, ka⟩ (kn + 1) = false := Tx.open_late (by omega)
        refine (Tx.Opened_impl ⟨⟨ku, ks, kh, ka⟩, kn, kt, false⟩ ⟨ku, (ks + 1) % 100000, kh, ka⟩ kn _).mono ?_
        rintro e w11 ⟨rfl, b11⟩
        rw [ho, Tx.open_false ho]
        have K11 := (Tx.Kp.mk (K10.bel.setCell (p := ⟨w9.heap.size, 1, none⟩) hz10 (.int .i64 ((ks + 1) % 100000)))).go b11
        obtain ⟨⟨i0, i1, i2, i3, i4, i5, i6⟩, _⟩ := Tx.blk7 (Tx.blk_on b11 (Tx.blk_away GB10.out ne1))
        obtain ⟨⟨j0, j1, j2, j3⟩, _⟩ := Tx.blk4 (Tx.blk_on b11 (Tx.blk_away GK10.out ne2))
        clear b11 ho f0 f1 f2 f3 f4 f5 f6 g0 g1 g2 g3 d0 d1 d2 d3 q0 q1 q2 q3 e0 e1 e2 e3
        go_wp2_with fail
        refine (Tx.Opened_impl ⟨⟨ku, ks, kh, ka⟩, kn, kt, false⟩ ⟨ku, ks, kh, ka⟩ (kn + 1) _).mono ?_
        rintro e w12 ⟨rfl, b12⟩
        rw [hl8, Tx.open_false hl8]
        have K12 := K11.go b12
        clear b12 hl8
        go_wp2
        go_ret
        exact ⟨rfl, K12.bel⟩

theorem own : ownKnob Try.prog.godebug = none := by kernel_rfl
theorem laidOut : laidOutB Try.prog = true := by kernel_rfl

set_option maxRecDepth 100000 in
theorem lifted (os : Os) (started : os.Started) (H : Type) (enc : TypeId × Value → H) :
    ReturnsInHanded {} Try.checked os 3 .any (Rows.fnBoxesSpec.pre6 enc Try.prog Try.f3 Rows.fnBoxesRow.domain false) (Rows.fnBoxesSpec.post enc Try.prog Try.f3 false true false false) := by
  refine returnsInHanded_of_change (C := Try.checked) own started (by kernel_rfl) Try.func3
    (ChangeSpec.witness6 (enc := enc) (C := Try.checked) false ⟨#[], #[.slice none 0 0], []⟩ 8 (by kernel_rfl) (by kernel_rfl) (by kernel_rfl) (by kernel_rfl)) ?_
  intro W base args ds gs before hval0 hW hcnd _
  have hval : ∀ (j : Nat) t v, Try.f3.params[j]? = some t → args[j]? = some v → Value.okWide Try.prog W .any base t v := hval0
  have hW' := hW
  obtain ⟨p, q, hA0, hV, rfl, hfz, hnd⟩ := hW
  have hA : DataW.TrodAll enc Try.prog W 0 (fun _ => true) true Try.f3.params.toList args.toList ds p := hA0
  rw [Try.params3] at hA hval
  obtain ⟨v0, vs0, d0, ds0, p0, q0, hargs, rfl, rfl, h0, r0⟩ := trodAll_cons hA
  obtain ⟨rfl, rfl, rfl⟩ := trodAll_nil r0
  obtain rfl : args = #[v0] := by cases args; simp_all
  obtain ⟨rfl, rfl⟩ := trodVars_none hV
  have k0 := h0
  have lt0 : ∀ x ∈ p0, x.block < W.heap.size := by obtain ⟨m, hm⟩ := k0; exact DataW.trod_lt m _ _ _ hm
  obtain ⟨a0, len0, cap0, rfl⟩ := okWide_slice Try.underlying22 (hval 0 22 v0 rfl rfl)
  have w0 : Tx.BytesAt W W.heap.size a0 len0 ∧ len0 ≤ maxLen := by
    obtain ⟨fuel, hf⟩ := h0
    rcases open_ints Try.underlying22 Try.underlying5 (by kernel_rfl) hf with ⟨hcs, _⟩ | ⟨x, l, c, zs, hcs, _, hl, hm, hz, _, hcell, hwz⟩
    · simp [Value.cells] at hcs
      obtain ⟨rfl, rfl, rfl⟩ := hcs
      exact ⟨fun h => absurd h (by omega), by unfold maxLen; omega⟩
    · simp [Value.cells] at hcs
      obtain ⟨rfl, rfl, rfl⟩ := hcs
      simp only [if_true] at hz
      exact ⟨Tx.bytesAt_of_ints (by omega) hcell fun n hn => bounds_u8 (hwz n hn), by omega⟩
  clear hA0 hval0
  refine (walk W a0 len0 cap0 w0.1 w0.2).mono fun e W' ⟨he, bel⟩ => ?_
  subst he
  exact ⟨_, rfl, _, _, _, [], _, [], hW', trodAll_mk1 (shut_bool Try.underlying4 _), (trodAll_cons_mk (Below.trod laidOut (by kernel_rfl) (of_decide_eq_true (by kernel_rfl)) k0 bel lt0) trodAll_mk0), rfl, bel.frame _, fun h => by cases h⟩

theorem over : Rows.fnBoxesRow.holds Try.pinned (OpenSpec.ofChange Rows.fnBoxesSpec) :=
  OpenClaim.holds_of_wide 3 Try.f3 rfl rfl rfl rfl rfl rfl rfl ⟨rfl, rfl, rfl, rfl, rfl⟩ rfl rfl rfl rfl rfl (by kernel_rfl) Try.func3 (by kernel_rfl)
    (of_decide_eq_true (by kernel_rfl)) (by unfold Func.isWrapper; first | (rw [if_pos (by decide +kernel)]; kernel_rfl) | (rw [if_neg (by decide +kernel)]; exact ⟨rfl, rfl⟩))
    (fun os started H enc _ => lifted os started H enc)

end Go.Proofs.Ytfllkiidjahmjaa.fnBoxes

namespace Go.Proofs.Ytfllkiidjahmjaa
theorem fnBoxes_proved : Rows.FnBoxesSaid := fnBoxes.over
#print axioms fnBoxes_proved
end Go.Proofs.Ytfllkiidjahmjaa

/-
  The law FnAnswers returns true at every code, and the code reads behind the call as it read before: an answer proves itself by its secret, by no other one, and not with anything else in it. Conditions: those that the card itself names (the listed variables of the library hold what its text lays in them).
-/
import Derived.Test.YtdnkpdfhnpmhbaaDoorRows
import Derived.WalkKit
import Derived.ProofKit
import Derived.OpenShut
import Derived.ShutString
import Derived.ChangeOld
import Derived.Below
import Derived.SliceStrings
import Derived.Lib.SmallJoins
import Derived.Test.YtdnkpdfhnpmhbaaDoorCards
import Derived.Test.YtdnkpdfhnpmhbaaDoorTie
import Derived.LaidMore
import Derived.Stop.Joined
import Derived.SevenTiedAt
import Derived.Deep.DeepCutAuto
import Derived.Test.YtdnkpdfhnpmhbaaDoorDraw11
import Derived.Test.YtdnkpdfhnpmhbaaDoorAns3
import Derived.Test.YtdnkpdfhnpmhbaaDoorImpl11c
import Derived.Test.YtdnkpdfhnpmhbaaDoorLaid
namespace Go.Proofs.YtdnkpdfhnpmhbaaDoor.fnAnswers
open Go.ChangeShapes Go.WideShapes Go.ChangeAt Go.RowKit
open Go.ChangeMaps (open_string shut_string)
set_option linter.unusedVariables false

open Tx (setAll setAll_below setAll_blk overA_toList)

set_option maxRecDepth 100000 in
set_option maxHeartbeats 16000000 in
theorem walk (w : World) (A : Option Addr) (n cap : Nat) (hb : Tx.BytesAt w w.heap.size A n) (hl : n ≤ maxLen) (ht : Tx.Tab w) :
    Calls Tryd.prog 3 #[.slice A n cap] w fun e w' => e = .returned (.bool true) ∧ Below w.heap.size w w' := by
  unfold maxLen at hl
  have BT := Lib.hid hb
  have K := Lib.hid (Below.refl w.heap.size w)
  have HTB := Lib.hid ht
  clear hb ht
  by_cases hbig : 4096 < n
  · have hd : decide (4096 < n) = true := by simpa using hbig
    go_enter Tryd.func3, Tryd.ntmps3
    go_wp2_with fail
    refine (Tx.big_any _ _ _ _).mono ?_
    rintro e w' ⟨rfl, rfl⟩
    go_wp2
    go_ret
    exact ⟨rfl, Below.refl _ _⟩
  have hd : decide (4096 < n) = false := by simpa using hbig
  have hn : n ≤ 4096 := by omega
  clear hbig
  go_enter Tryd.func3, Tryd.ntmps3
  go_wp2_with fail
  refine (Tx.big_any _ _ _ _).mono ?_
  rintro e w' ⟨rfl, rfl⟩
  clear hd
  go_wp2_with fail
  refine (Tx.DrawAnswering_any _ A n cap hn (BT.out.up K.out.size)).mono ?_
  rintro e w1 ⟨h, d, p, s, hp, rfl, b⟩
  replace BT := Lib.hid (BT.out.below (b.mono K.out.size))
  replace K := Lib.hid (K.out.trans (b.mono K.out.size))
  have sw1 := b.size
  clear b
  have hi : Tx.I64 p := ⟨by omega, by omega⟩
  clear hp
  go_wp2_with fail
  refine (Tx.Answering_impl h d p s hi _ (HTB.out.on K.out)).mono ?_
  rintro e w2 ⟨rfl, b⟩
  replace BT := Lib.hid (BT.out.below (b.mono K.out.size))
  replace K := Lib.hid (K.out.trans (b.mono K.out.size))
  have sw2 := b.size
  clear b
  obtain ⟨⟨ah, ad, ap, ⟨⟨xu, xs, xh, xa⟩, xn, xt, xp⟩⟩, ha⟩ : ∃ x, Tx.answerV h d p s = x := ⟨_, rfl⟩
  obtain ⟨is, his⟩ : ∃ x, Tx.answerB h d p s = x := ⟨_, rfl⟩
  have HA := Lib.hid ha
  have HI := Lib.hid his
  have HN : Hid (is = false → Tx.AnsV.zero = ⟨ah, ad, ap, ⟨⟨xu, xs, xh, xa⟩, xn, xt, xp⟩⟩) := fun e => (Tx.answer_no (his.trans e)).symm.trans ha
  have HY : Hid (is = true → Tx.provesB ⟨ah, ad, ap, ⟨⟨xu, xs, xh, xa⟩, xn, xt, xp⟩⟩ s = true ∧ Tx.ansOkB ⟨ah, ad, ap, ⟨⟨xu, xs, xh, xa⟩, xn, xt, xp⟩⟩ = true ∧ ah = h ∧ ap = p) := fun e => by
    have e1 := his.trans e
    have e2 := (Tx.answer_yes e1).symm.trans ha
    have e3 := Tx.raw_fields h d p s
    have e4 := (Tx.raw_proves h d p s).trans e1
    have e5 := Tx.raw_ok e1
    rw [e2] at e3 e4 e5
    exact ⟨e4, e5, e3.1, e3.2⟩
  clear ha his
  have HV : Hid (Tx.AnsV.val ⟨ah, ad, ap, ⟨⟨xu, xs, xh, xa⟩, xn, xt, xp⟩⟩ = .agg #[.int .i64 ah, .int .i64 ad, .int .i64 ap, .int .i64 xu, .int .i64 xs, .int .i64 xh, .int .i64 xa, .int .i64 xn, .string xt, .bool xp]) := rfl
  rw [HA.out, HI.out, HV.out]
  obtain ⟨W3, hW3⟩ : ∃ W, w2.alloc (.cells #[.int .i64 ah, .int .i64 ad, .int .i64 ap, .int .i64 xu, .int .i64 xs, .int .i64 xh, .int .i64 xa, .int .i64 xn, .string xt, .bool xp] 31) = W := ⟨_, rfl⟩
  replace BT := Lib.hid (BT.out.below ((Below.refl _ _).alloc K.out.size (.cells #[.int .i64 ah, .int .i64 ad, .int .i64 ap, .int .i64 xu, .int .i64 xs, .int .i64 xh, .int .i64 xa, .int .i64 xn, .string xt, .bool xp] 31)))
  replace K := Lib.hid (K.out.alloc K.out.size (.cells #[.int .i64 ah, .int .i64 ad, .int .i64 ap, .int .i64 xu, .int .i64 xs, .int .i64 xh, .int .i64 xa, .int .i64 xn, .string xt, .bool xp] 31))
  have GA := Lib.hid (Tx.heap1 w2 (.cells #[.int .i64 ah, .int .i64 ad, .int .i64 ap, .int .i64 xu, .int .i64 xs, .int .i64 xh, .int .i64 xa, .int .i64 xn, .string xt, .bool xp] 31))
  rw [hW3] at BT K GA
  have sW3 : w2.heap.size < W3.heap.size := by rw [← hW3]; simp
  go_wp2_with fail
  clear hW3
  refine (Tx.DrawProves_any _ A n cap hn (BT.out.up K.out.size)).mono ?_
  rintro e w4 ⟨⟨qh, qd, qp, ⟨⟨yu, ys, yh, ya⟩, yn, yt, yp⟩⟩, k, hq, rfl, b⟩
  replace BT := Lib.hid (BT.out.below (b.mono K.out.size))
  replace K := Lib.hid (K.out.trans (b.mono K.out.size))
  replace GA := Lib.hid (Tx.blk_on b GA.out)
  have sw4 := b.size
  clear b
  have hiq : Tx.I64 qp := by dsimp only at hq; exact ⟨by omega, by omega⟩
  clear hq
  have HQ : Hid (Tx.AnsV.val ⟨qh, qd, qp, ⟨⟨yu, ys, yh, ya⟩, yn, yt, yp⟩⟩ = .agg #[.int .i64 qh, .int .i64 qd, .int .i64 qp, .int .i64 yu, .int .i64 ys, .int .i64 yh, .int .i64 ya, .int .i64 yn, .string yt, .bool yp]) := rfl
  rw [HQ.out]
  obtain ⟨W5, hW5⟩ : ∃ W, w4.alloc (.cells #[.int .i64 qh, .int .i64 qd, .int .i64 qp, .int .i64 yu, .int .i64 ys, .int .i64 yh, .int .i64 ya, .int .i64 yn, .string yt, .bool yp] 31) = W := ⟨_, rfl⟩
  replace BT := Lib.hid (BT.out.below ((Below.refl _ _).alloc K.out.size (.cells #[.int .i64 qh, .int .i64 qd, .int .i64 qp, .int .i64 yu, .int .i64 ys, .int .i64 yh, .int .i64 ya, .int .i64 yn, .string yt, .bool yp] 31)))
  replace K := Lib.hid (K.out.alloc K.out.size (.cells #[.int .i64 qh, .int .i64 qd, .int .i64 qp, .int .i64 yu, .int .i64 ys, .int .i64 yh, .int .i64 ya, .int .i64 yn, .string yt, .bool yp] 31))
  replace GA := Lib.hid (Tx.alloc_blk (o := .cells #[.int .i64 qh, .int .i64 qd, .int .i64 qp, .int .i64 yu, .int .i64 ys, .int .i64 yh, .int .i64 ya, .int .i64 yn, .string yt, .bool yp] 31) GA.out)
  have GQ := Lib.hid (Tx.heap1 w4 (.cells #[.int .i64 qh, .int .i64 qd, .int .i64 qp, .int .i64 yu, .int .i64 ys, .int .i64 yh, .int .i64 ya, .int .i64 yn, .string yt, .bool yp] 31))
  rw [hW5] at BT K GA GQ
  have sW5 : w4.heap.size < W5.heap.size := by rw [← hW5]; simp
  obtain ⟨⟨c0, c1, c2, c3, c4, c5, c6, c7, c8, c9⟩, _⟩ := Tx.blk10 GQ.out
  go_wp2_with fail
  clear c0 c1 c2 c3 c4 c5 c6 c7 c8 c9
  clear hW5
  refine (Tx.Proves_impl ⟨qh, qd, qp, ⟨⟨yu, ys, yh, ya⟩, yn, yt, yp⟩⟩ k hiq _ (HTB.out.on K.out)).mono ?_
  rintro e w6 ⟨rfl, b⟩
  replace BT := Lib.hid (BT.out.below (b.mono K.out.size))
  replace K := Lib.hid (K.out.trans (b.mono K.out.size))
  replace GA := Lib.hid (Tx.blk_on b GA.out)
  replace GQ := Lib.hid (Tx.blk_on b GQ.out)
  have sw6 := b.size
  clear b
  obtain ⟨pv, hpv⟩ : ∃ x, Tx.provesB ⟨qh, qd, qp, ⟨⟨yu, ys, yh, ya⟩, yn, yt, yp⟩⟩ k = x := ⟨_, rfl⟩
  have HPV := Lib.hid hpv
  rw [hpv]
  clear hpv
  go_wp2_with fail
  refine (Tx.Answering_spec h d p s hi _).mono ?_
  rintro e w7 ⟨rfl, b⟩
  replace BT := Lib.hid (BT.out.below (b.mono K.out.size))
  replace K := Lib.hid (K.out.trans (b.mono K.out.size))
  replace GA := Lib.hid (Tx.blk_on b GA.out)
  replace GQ := Lib.hid (Tx.blk_on b GQ.out)
  have sw7 := b.size
  clear b
  rw [HA.out, HI.out, HV.out]
  obtain ⟨W8, hW8⟩ : ∃ W, w7.alloc (.cells #[.int .i64 ah, .int .i64 ad, .int .i64 ap, .int .i64 xu, .int .i64 xs, .int .i64 xh, .int .i64 xa, .int .i64 xn, .string xt, .bool xp] 31) = W := ⟨_, rfl⟩
  replace BT := Lib.hid (BT.out.below ((Below.refl _ _).alloc K.out.size (.cells #[.int .i64 ah, .int .i64 ad, .int .i64 ap, .int .i64 xu, .int .i64 xs, .int .i64 xh, .int .i64 xa, .int .i64 xn, .string xt, .bool xp] 31)))
  replace K := Lib.hid (K.out.alloc K.out.size (.cells #[.int .i64 ah, .int .i64 ad, .int .i64 ap, .int .i64 xu, .int .i64 xs, .int .i64 xh, .int .i64 xa, .int .i64 xn, .string xt, .bool xp] 31))
  replace GA := Lib.hid (Tx.alloc_blk (o := .cells #[.int .i64 ah, .int .i64 ad, .int .i64 ap, .int .i64 xu, .int .i64 xs, .int .i64 xh, .int .i64 xa, .int .i64 xn, .string xt, .bool xp] 31) GA.out)
  replace GQ := Lib.hid (Tx.alloc_blk (o := .cells #[.int .i64 ah, .int .i64 ad, .int .i64 ap, .int .i64 xu, .int .i64 xs, .int .i64 xh, .int .i64 xa, .int .i64 xn, .string xt, .bool xp] 31) GQ.out)
  have GX := Lib.hid (Tx.heap1 w7 (.cells #[.int .i64 ah, .int .i64 ad, .int .i64 ap, .int .i64 xu, .int .i64 xs, .int .i64 xh, .int .i64 xa, .int .i64 xn, .string xt, .bool xp] 31))
  rw [hW8] at BT K GA GQ GX
  have sW8 : w7.heap.size < W8.heap.size := by rw [← hW8]; simp
  have heq := Tx.eq_ans_self ah ad ap xu xs xh xa xn xt xp
  have hii : (is != is) = false := by simp
  have hpp : (pv != pv) = false := by simp
  obtain ⟨ok, hok⟩ : ∃ x, Tx.ansOkB ⟨qh, qd, qp, ⟨⟨yu, ys, yh, ya⟩, yn, yt, yp⟩⟩ = x := ⟨_, rfl⟩
  have hkk : (ok != ok) = false := by simp
  go_wp2
  clear hW8
  refine Tx.wp_region_own (W := W8) [] (fun _ => True) Tx.stays_true trivial [0, 0, 0, 0, 0, 0, 0, 0, 0, 0, 0, 0, 1, 0, 0, 0, 0, 1, 0, 1, 0, 0] (by kernel_rfl) (by kernel_rfl) (by kernel_rfl) ?_
  have fGA : ∀ q : Tx.In (Tx.plainEnv W8 []), _ := fun q => (Tx.blk10 (q.block GA.out (by simp))).1
  have fGX : ∀ q : Tx.In (Tx.plainEnv W8 []), _ := fun q => (Tx.blk10 (q.block GX.out (by simp))).1
  have fGQ : ∀ q : Tx.In (Tx.plainEnv W8 []), _ := fun q => (Tx.blk10 (q.block GQ.out (by simp))).1
  refine Tx.wpO_quiet 12 rfl (by kernel_rfl) ?_
  simp only [List.take, List.drop]
  repeat (go_big_quiet_step (fail))
  refine wpQuiet_nil ?_
  refine Tx.wpO_call (f := 12) (args := #[.agg #[.int .i64 qh, .int .i64 qd, .int .i64 qp, .int .i64 yu, .int .i64 ys, .int .i64 yh, .int .i64 ya, .int .i64 yn, .string yt, .bool yp], .int .i64 k]) (.bool pv) rfl (fun w' => by simp [go_sem]) (fun w' _ _ => by have h1 := Tx.Proves_spec ⟨qh, qd, qp, ⟨⟨yu, ys, yh, ya⟩, yn, yt, yp⟩⟩ k hiq w'; rw [HPV.out] at h1; exact h1) ?_
  simp only [Act.put, List.setIfInBounds_toArray, List.set_cons_succ, List.set_cons_zero]
  refine Tx.wpO_quiet 4 rfl (by kernel_rfl) ?_
  simp only [List.take, List.drop]
  repeat (go_big_quiet_step (fail))
  refine wpQuiet_nil ?_
  refine Tx.wpO_call (f := 13) (args := #[.agg #[.int .i64 qh, .int .i64 qd, .int .i64 qp, .int .i64 yu, .int .i64 ys, .int .i64 yh, .int .i64 ya, .int .i64 yn, .string yt, .bool yp]]) (.bool ok) rfl (fun w' => by simp [go_sem]) (fun w' _ _ => by have h1 := Tx.AnswerOk_impl ⟨qh, qd, qp, ⟨⟨yu, ys, yh, ya⟩, yn, yt, yp⟩⟩ w'; rw [hok] at h1; exact h1) ?_
  simp only [Act.put, List.setIfInBounds_toArray, List.set_cons_succ, List.set_cons_zero]
  refine Tx.wpO_quiet 1 rfl (by kernel_rfl) ?_
  simp only [List.take, List.drop]
  repeat (go_big_quiet_step (fail))
  refine wpQuiet_nil ?_
  refine Tx.wpO_call (f := 14) (args := #[.agg #[.int .i64 qh, .int .i64 qd, .int .i64 qp, .int .i64 yu, .int .i64 ys, .int .i64 yh, .int .i64 ya, .int .i64 yn, .string yt, .bool yp]]) (.bool ok) rfl (fun w' => by simp [go_sem]) (fun w' _ _ => by have h1 := Tx.AnswerOk_spec ⟨qh, qd, qp, ⟨⟨yu, ys, yh, ya⟩, yn, yt, yp⟩⟩ w'; rw [hok] at h1; exact h1) ?_
  simp only [Act.put, List.setIfInBounds_toArray, List.set_cons_succ, List.set_cons_zero]
  refine Tx.wpO_quiet 2 rfl (by kernel_rfl) ?_
  simp only [List.take, List.drop]
  repeat (go_big_quiet_step (fail))
  refine wpQuiet_nil ?_
  refine Tx.wpO_nil ?_
  rintro w9 b' _
  have b := Tx.kept_below b'
  clear b' fGA fGX fGQ
  replace BT := Lib.hid (BT.out.below (b.mono K.out.size))
  replace K := Lib.hid (K.out.trans (b.mono K.out.size))
  replace GA := Lib.hid (Tx.blk_on b GA.out)
  replace GQ := Lib.hid (Tx.blk_on b GQ.out)
  replace GX := Lib.hid (Tx.blk_on b GX.out)
  have sw9 := b.size
  clear b
  clear GX BT
  clear hok hkk hpp hii heq
  cases pv with
  | false =>
    clear GQ
    cases is with
    | false =>
      have e0 := HN.out rfl
      injection e0 with p0 p1 p2 p3
      injection p3 with p4 p5 p6 p7
      injection p4 with p8 p9 p10 p11
      subst p0; subst p1; subst p2; subst p5; subst p6; subst p7; subst p8; subst p9; subst p10; subst p11
      have hez := Tx.eq_ans_self 0 0 0 0 0 0 0 0 ⟨#[]⟩ false
      obtain ⟨⟨e0, e1, e2, e3, e4, e5, e6, e7, e8, e9⟩, _⟩ := Tx.blk10 GA.out
      go_wp2
      go_ret
      exact ⟨rfl, K.out⟩
    | true =>
      obtain ⟨hy1, hy2, hy3, hy4⟩ := HY.out rfl
      subst hy3; subst hy4
      have HY1 := Lib.hid hy1
      have HY2 := Lib.hid hy2
      clear hy1 hy2 HY HN
      obtain ⟨⟨e0, e1, e2, e3, e4, e5, e6, e7, e8, e9⟩, _⟩ := Tx.blk10 GA.out
      go_wp2_with fail
      clear e0 e1 e2 e3 e4 e5 e6 e7 e8 e9
      refine (Tx.AnswerOk_impl ⟨ah, ad, ap, ⟨⟨xu, xs, xh, xa⟩, xn, xt, xp⟩⟩ _).mono ?_
      rintro e w40 ⟨rfl, b⟩
      replace K := Lib.hid (K.out.trans (b.mono K.out.size))
      replace GA := Lib.hid (Tx.blk_on b GA.out)
      have sw40 := b.size
      clear b
      rw [HY2.out]
      obtain ⟨⟨e0, e1, e2, e3, e4, e5, e6, e7, e8, e9⟩, _⟩ := Tx.blk10 GA.out
      go_wp2_with fail
      clear e0 e1 e2 e3 e4 e5 e6 e7 e8 e9
      refine (Tx.Proves_impl ⟨ah, ad, ap, ⟨⟨xu, xs, xh, xa⟩, xn, xt, xp⟩⟩ s hi _ (HTB.out.on K.out)).mono ?_
      rintro e w41 ⟨rfl, b⟩
      replace K := Lib.hid (K.out.trans (b.mono K.out.size))
      replace GA := Lib.hid (Tx.blk_on b GA.out)
      have sw41 := b.size
      clear b
      rw [HY1.out]
      obtain ⟨⟨e0, e1, e2, e3, e4, e5, e6, e7, e8, e9⟩, _⟩ := Tx.blk10 GA.out
      go_wp2
      go_ret
      exact ⟨rfl, K.out⟩
  | true =>
    by_cases hq4 : qp = 4
    · have hq4' : (qp != 4) = false := by simpa using hq4
      clear hq4
      cases is with
      | false =>
        have e0 := HN.out rfl
        injection e0 with p0 p1 p2 p3
        injection p3 with p4 p5 p6 p7
        injection p4 with p8 p9 p10 p11
        subst p0; subst p1; subst p2; subst p5; subst p6; subst p7; subst p8; subst p9; subst p10; subst p11
        have hez := Tx.eq_ans_self 0 0 0 0 0 0 0 0 ⟨#[]⟩ false
        obtain ⟨⟨c0, c1, c2, c3, c4, c5, c6, c7, c8, c9⟩, _⟩ := Tx.blk10 GQ.out
        obtain ⟨⟨e0, e1, e2, e3, e4, e5, e6, e7, e8, e9⟩, _⟩ := Tx.blk10 GA.out
        go_wp2
        go_ret
        exact ⟨rfl, K.out⟩
      | true =>
        obtain ⟨hy1, hy2, hy3, hy4⟩ := HY.out rfl
        subst hy3; subst hy4
        have HY1 := Lib.hid hy1
        have HY2 := Lib.hid hy2
        clear hy1 hy2 HY HN
        obtain ⟨⟨c0, c1, c2, c3, c4, c5, c6, c7, c8, c9⟩, _⟩ := Tx.blk10 GQ.out
        obtain ⟨⟨e0, e1, e2, e3, e4, e5, e6, e7, e8, e9⟩, _⟩ := Tx.blk10 GA.out
        go_wp2_with fail
        clear c0 c1 c2 c3 c4 c5 c6 c7 c8 c9 e0 e1 e2 e3 e4 e5 e6 e7 e8 e9
        refine (Tx.AnswerOk_impl ⟨ah, ad, ap, ⟨⟨xu, xs, xh, xa⟩, xn, xt, xp⟩⟩ _).mono ?_
        rintro e w40 ⟨rfl, b⟩
        replace K := Lib.hid (K.out.trans (b.mono K.out.size))
        replace GA := Lib.hid (Tx.blk_on b GA.out)
        replace GQ := Lib.hid (Tx.blk_on b GQ.out)
        have sw40 := b.size
        clear b
        rw [HY2.out]
        obtain ⟨⟨e0, e1, e2, e3, e4, e5, e6, e7, e8, e9⟩, _⟩ := Tx.blk10 GA.out
        go_wp2_with fail
        clear e0 e1 e2 e3 e4 e5 e6 e7 e8 e9
        refine (Tx.Proves_impl ⟨ah, ad, ap, ⟨⟨xu, xs, xh, xa⟩, xn, xt, xp⟩⟩ s hi _ (HTB.out.on K.out)).mono ?_
        rintro e w41 ⟨rfl, b⟩
        replace K := Lib.hid (K.out.trans (b.mono K.out.size))
        replace GA := Lib.hid (Tx.blk_on b GA.out)
        replace GQ := Lib.hid (Tx.blk_on b GQ.out)
        have sw41 := b.size
        clear b
        rw [HY1.out]
        obtain ⟨⟨e0, e1, e2, e3, e4, e5, e6, e7, e8, e9⟩, _⟩ := Tx.blk10 GA.out
        go_wp2
        go_ret
        exact ⟨rfl, K.out⟩
    · have hq4' : (qp != 4) = true := by simpa using hq4
      have hrg := Tx.ok_ranges (Tx.proves_ok HPV.out)
      dsimp only at hrg
      obtain ⟨⟨g0, g1⟩, ⟨g2, g3⟩, g4⟩ := hrg
      obtain ⟨g5, g6⟩ := g4 hq4
      obtain ⟨ro, hro⟩ : ∃ r, qh % 1000 = r := ⟨_, rfl⟩
      obtain ⟨re, hre⟩ : ∃ r, qd % 1000 = r := ⟨_, rfl⟩
      obtain ⟨rf, hrf⟩ : ∃ r, qp % 3 = r := ⟨_, rfl⟩
      have bo : 0 ≤ ro ∧ ro < 1000 := by omega
      have be : 0 ≤ re ∧ re < 1000 := by omega
      have bf : 0 ≤ rf ∧ rf < 3 := by omega
      have hro' : qh.tmod 1000 = ro := by rw [Int.tmod_eq_emod_of_nonneg (by omega)]; exact hro
      have hre' : qd.tmod 1000 = re := by rw [Int.tmod_eq_emod_of_nonneg (by omega)]; exact hre
      have hrf' : qp.tmod 3 = rf := by rw [Int.tmod_eq_emod_of_nonneg (by omega)]; exact hrf
      have nf : rf + 1 ≠ qp := by omega
      have cO : Hid (¬ ro + 1 = qh → ∀ w' : World, Tx.Tab w' → Calls Tryd.prog 10 #[.agg #[.int .i64 (ro + 1), .int .i64 qd, .int .i64 qp, .int .i64 yu, .int .i64 ys, .int .i64 yh, .int .i64 ya, .int .i64 yn, .string yt, .bool yp], .int .i64 k] w' fun e w'' => e = .returned (.bool false) ∧ Below w'.heap.size w' w'') := fun hne w' hT => by
        have h1 := Tx.Proves_impl ⟨(ro + 1), qd, qp, ⟨⟨yu, ys, yh, ya⟩, yn, yt, yp⟩⟩ k hiq w' hT
        rw [Tx.other_hello HPV.out hq4 hne] at h1
        exact h1
      have cE : Hid (¬ re + 1 = qd → ∀ w' : World, Tx.Tab w' → Calls Tryd.prog 10 #[.agg #[.int .i64 qh, .int .i64 (re + 1), .int .i64 qp, .int .i64 yu, .int .i64 ys, .int .i64 yh, .int .i64 ya, .int .i64 yn, .string yt, .bool yp], .int .i64 k] w' fun e w'' => e = .returned (.bool false) ∧ Below w'.heap.size w' w'') := fun hne w' hT => by
        have h1 := Tx.Proves_impl ⟨qh, (re + 1), qp, ⟨⟨yu, ys, yh, ya⟩, yn, yt, yp⟩⟩ k hiq w' hT
        rw [Tx.other_draw HPV.out hq4 hne] at h1
        exact h1
      have cF : Hid (∀ w' : World, Tx.Tab w' → Calls Tryd.prog 10 #[.agg #[.int .i64 qh, .int .i64 qd, .int .i64 (rf + 1), .int .i64 yu, .int .i64 ys, .int .i64 yh, .int .i64 ya, .int .i64 yn, .string yt, .bool yp], .int .i64 k] w' fun e w'' => e = .returned (.bool false) ∧ Below w'.heap.size w' w'') := fun w' hT => by
        have h1 := Tx.Proves_impl ⟨qh, qd, (rf + 1), ⟨⟨yu, ys, yh, ya⟩, yn, yt, yp⟩⟩ k (show Tx.I64 (rf + 1) from ⟨by omega, by omega⟩) w' hT
        rw [Tx.other_pick HPV.out hq4 (by omega) (by omega) nf] at h1
        exact h1
      have cQ : Hid (∀ k' : Int, ∀ w' : World, Tx.Tab w' → Calls Tryd.prog 10 #[.agg #[.int .i64 qh, .int .i64 qd, .int .i64 qp, .int .i64 yu, .int .i64 ys, .int .i64 yh, .int .i64 ya, .int .i64 yn, .string yt, .bool yp], .int .i64 k'] w' fun e w'' => e = .returned (.bool (Tx.provesB ⟨qh, qd, qp, ⟨⟨yu, ys, yh, ya⟩, yn, yt, yp⟩⟩ k')) ∧ Below w'.heap.size w' w'') := fun k' w' hT => Tx.Proves_impl ⟨qh, qd, qp, ⟨⟨yu, ys, yh, ya⟩, yn, yt, yp⟩⟩ k' hiq w' hT
      have HK : Hid (qp ≠ 1 → 1 ≤ k ∧ k ≤ 100000) := fun h1 => (Tx.proves_opens HPV.out hq4).2 h1
      have HS : Hid (∀ k', qp ≠ 1 → k' ≠ k → Tx.provesB ⟨qh, qd, qp, ⟨⟨yu, ys, yh, ya⟩, yn, yt, yp⟩⟩ k' = false) := fun k' h1 hne => Tx.other_secret HPV.out hq4 h1 hne
      clear hro hre hrf hq4 hiq nf
      obtain ⟨⟨c0, c1, c2, c3, c4, c5, c6, c7, c8, c9⟩, _⟩ := Tx.blk10 GQ.out
      go_upto_region 11 with fail
      clear c0 c1 c2 c3 c4 c5 c6 c7 c8 c9
      obtain ⟨⟨c0, c1, c2, c3, c4, c5, c6, c7, c8, c9⟩, _⟩ := Tx.blk10 GQ.out
      obtain ⟨W10, hW10⟩ : ∃ W, w9.alloc (.cells #[.int .i64 qh, .int .i64 qd, .int .i64 qp, .int .i64 yu, .int .i64 ys, .int .i64 yh, .int .i64 ya, .int .i64 yn, .string yt, .bool yp] 31) = W := ⟨_, rfl⟩
      replace K := Lib.hid (K.out.alloc K.out.size (.cells #[.int .i64 qh, .int .i64 qd, .int .i64 qp, .int .i64 yu, .int .i64 ys, .int .i64 yh, .int .i64 ya, .int .i64 yn, .string yt, .bool yp] 31))
      replace GA := Lib.hid (Tx.alloc_blk (o := .cells #[.int .i64 qh, .int .i64 qd, .int .i64 qp, .int .i64 yu, .int .i64 ys, .int .i64 yh, .int .i64 ya, .int .i64 yn, .string yt, .bool yp] 31) GA.out)
      replace GQ := Lib.hid (Tx.alloc_blk (o := .cells #[.int .i64 qh, .int .i64 qd, .int .i64 qp, .int .i64 yu, .int .i64 ys, .int .i64 yh, .int .i64 ya, .int .i64 yn, .string yt, .bool yp] 31) GQ.out)
      have O := Lib.hid (Tx.heap1 w9 (.cells #[.int .i64 qh, .int .i64 qd, .int .i64 qp, .int .i64 yu, .int .i64 ys, .int .i64 yh, .int .i64 ya, .int .i64 yn, .string yt, .bool yp] 31))
      rw [hW10] at K GA GQ O
      have sW10 : w9.heap.size < W10.heap.size := by rw [← hW10]; simp
      go_upto_region 12 with fail
      clear c0 c1 c2 c3 c4 c5 c6 c7 c8 c9
      clear hW10
      obtain ⟨⟨c0, c1, c2, c3, c4, c5, c6, c7, c8, c9⟩, _⟩ := Tx.blk10 GQ.out
      obtain ⟨⟨e0, e1, e2, e3, e4, e5, e6, e7, e8, e9⟩, f0, f1, f2, f3, f4, f5, f6, f7, f8, f9⟩ := Tx.blk10 O.out
      obtain ⟨W11, hW11q⟩ : ∃ W, setAll W10 w9.heap.size 0 [.int .i64 (ro + 1)] = W := ⟨_, rfl⟩
      have hW11 : (W10.setCell ⟨w9.heap.size, 0, none⟩ (.int .i64 (ro + 1))) = W11 := hW11q
      replace K := Lib.hid (setAll_below (g := w9.heap.size) (by omega) [.int .i64 (ro + 1)] 0 K.out)
      replace GA := Lib.hid (Tx.setAll_away (g := w9.heap.size) (by omega) [.int .i64 (ro + 1)] 0 GA.out)
      replace GQ := Lib.hid (Tx.setAll_away (g := w9.heap.size) (by omega) [.int .i64 (ro + 1)] 0 GQ.out)
      have Ox := setAll_blk (w := W10) (g := w9.heap.size) [.int .i64 (ro + 1)] 0 O.out
      rw [hW11q] at K GA GQ Ox
      have sW11 : W10.heap.size ≤ W11.heap.size := by rw [← hW11q]; exact (setAll_below (B := 0) (a := W10) (Nat.zero_le _) [.int .i64 (ro + 1)] 0 (Below.refl _ _)).size
      replace O : Hid (W11.heap[w9.heap.size]? = some (.cells #[.int .i64 (ro + 1), .int .i64 qd, .int .i64 qp, .int .i64 yu, .int .i64 ys, .int .i64 yh, .int .i64 ya, .int .i64 yn, .string yt, .bool yp] 31)) := by
        show _ = _
        rw [Ox]
        congr 2 <;> exact Array.toList_inj.1 ((overA_toList [.int .i64 (ro + 1)] 0 _ (by simp)).trans rfl)
      clear Ox hW11q
      go_upto_region 13 with fail
      try rw [hW11]
      clear c0 c1 c2 c3 c4 c5 c6 c7 c8 c9
      clear hW11 e0 e1 e2 e3 e4 e5 e6 e7 e8 e9 f0 f1 f2 f3 f4 f5 f6 f7 f8 f9
      obtain ⟨⟨c0, c1, c2, c3, c4, c5, c6, c7, c8, c9⟩, _⟩ := Tx.blk10 GQ.out
      obtain ⟨W12, hW12⟩ : ∃ W, W11.alloc (.cells #[.int .i64 qh, .int .i64 qd, .int .i64 qp, .int .i64 yu, .int .i64 ys, .int .i64 yh, .int .i64 ya, .int .i64 yn, .string yt, .bool yp] 31) = W := ⟨_, rfl⟩
      replace K := Lib.hid (K.out.alloc K.out.size (.cells #[.int .i64 qh, .int .i64 qd, .int .i64 qp, .int .i64 yu, .int .i64 ys, .int .i64 yh, .int .i64 ya, .int .i64 yn, .string yt, .bool yp] 31))
      replace GA := Lib.hid (Tx.alloc_blk (o := .cells #[.int .i64 qh, .int .i64 qd, .int .i64 qp, .int .i64 yu, .int .i64 ys, .int .i64 yh, .int .i64 ya, .int .i64 yn, .string yt, .bool yp] 31) GA.out)
      replace GQ := Lib.hid (Tx.alloc_blk (o := .cells #[.int .i64 qh, .int .i64 qd, .int .i64 qp, .int .i64 yu, .int .i64 ys, .int .i64 yh, .int .i64 ya, .int .i64 yn, .string yt, .bool yp] 31) GQ.out)
      replace O := Lib.hid (Tx.alloc_blk (o := .cells #[.int .i64 qh, .int .i64 qd, .int .i64 qp, .int .i64 yu, .int .i64 ys, .int .i64 yh, .int .i64 ya, .int .i64 yn, .string yt, .bool yp] 31) O.out)
      have E := Lib.hid (Tx.heap1 W11 (.cells #[.int .i64 qh, .int .i64 qd, .int .i64 qp, .int .i64 yu, .int .i64 ys, .int .i64 yh, .int .i64 ya, .int .i64 yn, .string yt, .bool yp] 31))
      rw [hW12] at K GA GQ O E
      have sW12 : W11.heap.size < W12.heap.size := by rw [← hW12]; simp
      go_upto_region 14 with fail
      clear c0 c1 c2 c3 c4 c5 c6 c7 c8 c9
      clear hW12
      obtain ⟨⟨c0, c1, c2, c3, c4, c5, c6, c7, c8, c9⟩, _⟩ := Tx.blk10 GQ.out
      obtain ⟨⟨e0, e1, e2, e3, e4, e5, e6, e7, e8, e9⟩, f0, f1, f2, f3, f4, f5, f6, f7, f8, f9⟩ := Tx.blk10 E.out
      obtain ⟨W13, hW13q⟩ : ∃ W, setAll W12 W11.heap.size 1 [.int .i64 (re + 1)] = W := ⟨_, rfl⟩
      have hW13 : (W12.setCell ⟨W11.heap.size, 1, none⟩ (.int .i64 (re + 1))) = W13 := hW13q
      replace K := Lib.hid (setAll_below (g := W11.heap.size) (by omega) [.int .i64 (re + 1)] 1 K.out)
      replace GA := Lib.hid (Tx.setAll_away (g := W11.heap.size) (by omega) [.int .i64 (re + 1)] 1 GA.out)
      replace GQ := Lib.hid (Tx.setAll_away (g := W11.heap.size) (by omega) [.int .i64 (re + 1)] 1 GQ.out)
      replace O := Lib.hid (Tx.setAll_away (g := W11.heap.size) (by omega) [.int .i64 (re + 1)] 1 O.out)
      have Ex := setAll_blk (w := W12) (g := W11.heap.size) [.int .i64 (re + 1)] 1 E.out
      rw [hW13q] at K GA GQ O Ex
      have sW13 : W12.heap.size ≤ W13.heap.size := by rw [← hW13q]; exact (setAll_below (B := 0) (a := W12) (Nat.zero_le _) [.int .i64 (re + 1)] 1 (Below.refl _ _)).size
      replace E : Hid (W13.heap[W11.heap.size]? = some (.cells #[.int .i64 qh, .int .i64 (re + 1), .int .i64 qp, .int .i64 yu, .int .i64 ys, .int .i64 yh, .int .i64 ya, .int .i64 yn, .string yt, .bool yp] 31)) := by
        show _ = _
        rw [Ex]
        congr 2 <;> exact Array.toList_inj.1 ((overA_toList [.int .i64 (re + 1)] 1 _ (by simp)).trans rfl)
      clear Ex hW13q
      go_upto_region 15 with fail
      try rw [hW13]
      clear c0 c1 c2 c3 c4 c5 c6 c7 c8 c9
      clear hW13 e0 e1 e2 e3 e4 e5 e6 e7 e8 e9 f0 f1 f2 f3 f4 f5 f6 f7 f8 f9
      obtain ⟨⟨c0, c1, c2, c3, c4, c5, c6, c7, c8, c9⟩, _⟩ := Tx.blk10 GQ.out
      obtain ⟨W14, hW14⟩ : ∃ W, W13.alloc (.cells #[.int .i64 qh, .int .i64 qd, .int .i64 qp, .int .i64 yu, .int .i64 ys, .int .i64 yh, .int .i64 ya, .int .i64 yn, .string yt, .bool yp] 31) = W := ⟨_, rfl⟩
      replace K := Lib.hid (K.out.alloc K.out.size (.cells #[.int .i64 qh, .int .i64 qd, .int .i64 qp, .int .i64 yu, .int .i64 ys, .int .i64 yh, .int .i64 ya, .int .i64 yn, .string yt, .bool yp] 31))
      replace GA := Lib.hid (Tx.alloc_blk (o := .cells #[.int .i64 qh, .int .i64 qd, .int .i64 qp, .int .i64 yu, .int .i64 ys, .int .i64 yh, .int .i64 ya, .int .i64 yn, .string yt, .bool yp] 31) GA.out)
      replace GQ := Lib.hid (Tx.alloc_blk (o := .cells #[.int .i64 qh, .int .i64 qd, .int .i64 qp, .int .i64 yu, .int .i64 ys, .int .i64 yh, .int .i64 ya, .int .i64 yn, .string yt, .bool yp] 31) GQ.out)
      replace O := Lib.hid (Tx.alloc_blk (o := .cells #[.int .i64 qh, .int .i64 qd, .int .i64 qp, .int .i64 yu, .int .i64 ys, .int .i64 yh, .int .i64 ya, .int .i64 yn, .string yt, .bool yp] 31) O.out)
      replace E := Lib.hid (Tx.alloc_blk (o := .cells #[.int .i64 qh, .int .i64 qd, .int .i64 qp, .int .i64 yu, .int .i64 ys, .int .i64 yh, .int .i64 ya, .int .i64 yn, .string yt, .bool yp] 31) E.out)
      have F := Lib.hid (Tx.heap1 W13 (.cells #[.int .i64 qh, .int .i64 qd, .int .i64 qp, .int .i64 yu, .int .i64 ys, .int .i64 yh, .int .i64 ya, .int .i64 yn, .string yt, .bool yp] 31))
      rw [hW14] at K GA GQ O E F
      have sW14 : W13.heap.size < W14.heap.size := by rw [← hW14]; simp
      go_upto_region 16 with fail
      clear c0 c1 c2 c3 c4 c5 c6 c7 c8 c9
      clear hW14
      obtain ⟨⟨c0, c1, c2, c3, c4, c5, c6, c7, c8, c9⟩, _⟩ := Tx.blk10 GQ.out
      obtain ⟨⟨e0, e1, e2, e3, e4, e5, e6, e7, e8, e9⟩, f0, f1, f2, f3, f4, f5, f6, f7, f8, f9⟩ := Tx.blk10 F.out
      obtain ⟨W15, hW15q⟩ : ∃ W, setAll W14 W13.heap.size 2 [.int .i64 (rf + 1)] = W := ⟨_, rfl⟩
      have hW15 : (W14.setCell ⟨W13.heap.size, 2, none⟩ (.int .i64 (rf + 1))) = W15 := hW15q
      replace K := Lib.hid (setAll_below (g := W13.heap.size) (by omega) [.int .i64 (rf + 1)] 2 K.out)
      replace GA := Lib.hid (Tx.setAll_away (g := W13.heap.size) (by omega) [.int .i64 (rf + 1)] 2 GA.out)
      replace GQ := Lib.hid (Tx.setAll_away (g := W13.heap.size) (by omega) [.int .i64 (rf + 1)] 2 GQ.out)
      replace O := Lib.hid (Tx.setAll_away (g := W13.heap.size) (by omega) [.int .i64 (rf + 1)] 2 O.out)
      replace E := Lib.hid (Tx.setAll_away (g := W13.heap.size) (by omega) [.int .i64 (rf + 1)] 2 E.out)
      have Fx := setAll_blk (w := W14) (g := W13.heap.size) [.int .i64 (rf + 1)] 2 F.out
      rw [hW15q] at K GA GQ O E Fx
      have sW15 : W14.heap.size ≤ W15.heap.size := by rw [← hW15q]; exact (setAll_below (B := 0) (a := W14) (Nat.zero_le _) [.int .i64 (rf + 1)] 2 (Below.refl _ _)).size
      replace F : Hid (W15.heap[W13.heap.size]? = some (.cells #[.int .i64 qh, .int .i64 qd, .int .i64 (rf + 1), .int .i64 yu, .int .i64 ys, .int .i64 yh, .int .i64 ya, .int .i64 yn, .string yt, .bool yp] 31)) := by
        show _ = _
        rw [Fx]
        congr 2 <;> exact Array.toList_inj.1 ((overA_toList [.int .i64 (rf + 1)] 2 _ (by simp)).trans rfl)
      clear Fx hW15q
      go_upto_region 17 with fail
      try rw [hW15]
      clear c0 c1 c2 c3 c4 c5 c6 c7 c8 c9
      clear hW15 e0 e1 e2 e3 e4 e5 e6 e7 e8 e9 f0 f1 f2 f3 f4 f5 f6 f7 f8 f9
      go_cut [141] (fun c wx => c = .bool false ∧ Below W15.heap.size W15 wx)
      case first =>
        have J := Lib.hid (Below.refl W15.heap.size W15)
        clear GA
        by_cases ho : ro + 1 = qh
        · have ho' : (ro + 1 != qh) = false := by simpa using ho
          clear ho
          by_cases he : re + 1 = qd
          · have he' : (re + 1 != qd) = false := by simpa using he
            clear he
            obtain ⟨⟨c0, c1, c2, c3, c4, c5, c6, c7, c8, c9⟩, _⟩ := Tx.blk10 GQ.out
            obtain ⟨⟨d0, d1, d2, d3, d4, d5, d6, d7, d8, d9⟩, _⟩ := Tx.blk10 O.out
            obtain ⟨⟨e0, e1, e2, e3, e4, e5, e6, e7, e8, e9⟩, _⟩ := Tx.blk10 E.out
            obtain ⟨⟨f0, f1, f2, f3, f4, f5, f6, f7, f8, f9⟩, _⟩ := Tx.blk10 F.out
            go_wp2_with fail
            clear c0 c1 c2 c3 c4 c5 c6 c7 c8 c9 d0 d1 d2 d3 d4 d5 d6 d7 d8 d9 e0 e1 e2 e3 e4 e5 e6 e7 e8 e9 f0 f1 f2 f3 f4 f5 f6 f7 f8 f9
            refine (cF.out _ (HTB.out.on K.out)).mono ?_
            rintro e w23 ⟨rfl, b⟩
            replace K := Lib.hid (K.out.trans (b.mono K.out.size))
            replace GQ := Lib.hid (Tx.blk_on b GQ.out)
            replace O := Lib.hid (Tx.blk_on b O.out)
            replace E := Lib.hid (Tx.blk_on b E.out)
            replace F := Lib.hid (Tx.blk_on b F.out)
            replace J := Lib.hid (J.out.trans (b.mono J.out.size))
            have sw23 := b.size
            clear b
            by_cases h1 : qp = 1
            · have h1' : (qp != 1) = false := by simpa using h1
              clear h1
              obtain ⟨⟨c0, c1, c2, c3, c4, c5, c6, c7, c8, c9⟩, _⟩ := Tx.blk10 GQ.out
              obtain ⟨⟨d0, d1, d2, d3, d4, d5, d6, d7, d8, d9⟩, _⟩ := Tx.blk10 O.out
              obtain ⟨⟨e0, e1, e2, e3, e4, e5, e6, e7, e8, e9⟩, _⟩ := Tx.blk10 E.out
              obtain ⟨⟨f0, f1, f2, f3, f4, f5, f6, f7, f8, f9⟩, _⟩ := Tx.blk10 F.out
              go_wp2
              go_meet
              exact ⟨rfl, J.out⟩
            · have h1' : (qp != 1) = true := by simpa using h1
              obtain ⟨hk0, hk1⟩ := HK.out h1
              obtain ⟨rk, hrk⟩ : ∃ r, k % 1000 = r := ⟨_, rfl⟩
              have bk : 0 ≤ rk ∧ rk < 1000 := by omega
              have hrk' : k.tmod 1000 = rk := by rw [Int.tmod_eq_emod_of_nonneg (by omega)]; exact hrk
              clear hrk
              obtain ⟨⟨c0, c1, c2, c3, c4, c5, c6, c7, c8, c9⟩, _⟩ := Tx.blk10 GQ.out
              obtain ⟨⟨d0, d1, d2, d3, d4, d5, d6, d7, d8, d9⟩, _⟩ := Tx.blk10 O.out
              obtain ⟨⟨e0, e1, e2, e3, e4, e5, e6, e7, e8, e9⟩, _⟩ := Tx.blk10 E.out
              obtain ⟨⟨f0, f1, f2, f3, f4, f5, f6, f7, f8, f9⟩, _⟩ := Tx.blk10 F.out
              go_wp2_with fail
              clear c0 c1 c2 c3 c4 c5 c6 c7 c8 c9 d0 d1 d2 d3 d4 d5 d6 d7 d8 d9 e0 e1 e2 e3 e4 e5 e6 e7 e8 e9 f0 f1 f2 f3 f4 f5 f6 f7 f8 f9
              refine (cQ.out (rk + 1) _ (HTB.out.on K.out)).mono ?_
              rintro e w24 ⟨rfl, b⟩
              replace K := Lib.hid (K.out.trans (b.mono K.out.size))
              replace GQ := Lib.hid (Tx.blk_on b GQ.out)
              replace O := Lib.hid (Tx.blk_on b O.out)
              replace E := Lib.hid (Tx.blk_on b E.out)
              replace F := Lib.hid (Tx.blk_on b F.out)
              replace J := Lib.hid (J.out.trans (b.mono J.out.size))
              have sw24 := b.size
              clear b
              by_cases hk : rk + 1 = k
              · have hk' : (rk + 1 != k) = false := by simpa using hk
                clear hk
                generalize Tx.provesB ⟨qh, qd, qp, ⟨⟨yu, ys, yh, ya⟩, yn, yt, yp⟩⟩ (rk + 1) = zb
                cases zb
                · obtain ⟨⟨c0, c1, c2, c3, c4, c5, c6, c7, c8, c9⟩, _⟩ := Tx.blk10 GQ.out
                  obtain ⟨⟨d0, d1, d2, d3, d4, d5, d6, d7, d8, d9⟩, _⟩ := Tx.blk10 O.out
                  obtain ⟨⟨e0, e1, e2, e3, e4, e5, e6, e7, e8, e9⟩, _⟩ := Tx.blk10 E.out
                  obtain ⟨⟨f0, f1, f2, f3, f4, f5, f6, f7, f8, f9⟩, _⟩ := Tx.blk10 F.out
                  go_wp2
                  go_meet
                  exact ⟨rfl, J.out⟩
                · obtain ⟨⟨c0, c1, c2, c3, c4, c5, c6, c7, c8, c9⟩, _⟩ := Tx.blk10 GQ.out
                  obtain ⟨⟨d0, d1, d2, d3, d4, d5, d6, d7, d8, d9⟩, _⟩ := Tx.blk10 O.out
                  obtain ⟨⟨e0, e1, e2, e3, e4, e5, e6, e7, e8, e9⟩, _⟩ := Tx.blk10 E.out
                  obtain ⟨⟨f0, f1, f2, f3, f4, f5, f6, f7, f8, f9⟩, _⟩ := Tx.blk10 F.out
                  go_wp2
                  go_meet
                  exact ⟨rfl, J.out⟩
              · rw [HS.out (rk + 1) h1 hk]
                obtain ⟨⟨c0, c1, c2, c3, c4, c5, c6, c7, c8, c9⟩, _⟩ := Tx.blk10 GQ.out
                obtain ⟨⟨d0, d1, d2, d3, d4, d5, d6, d7, d8, d9⟩, _⟩ := Tx.blk10 O.out
                obtain ⟨⟨e0, e1, e2, e3, e4, e5, e6, e7, e8, e9⟩, _⟩ := Tx.blk10 E.out
                obtain ⟨⟨f0, f1, f2, f3, f4, f5, f6, f7, f8, f9⟩, _⟩ := Tx.blk10 F.out
                go_wp2
                go_meet
                exact ⟨rfl, J.out⟩
          · have he' : (re + 1 != qd) = true := by simpa using he
            obtain ⟨⟨c0, c1, c2, c3, c4, c5, c6, c7, c8, c9⟩, _⟩ := Tx.blk10 GQ.out
            obtain ⟨⟨d0, d1, d2, d3, d4, d5, d6, d7, d8, d9⟩, _⟩ := Tx.blk10 O.out
            obtain ⟨⟨e0, e1, e2, e3, e4, e5, e6, e7, e8, e9⟩, _⟩ := Tx.blk10 E.out
            obtain ⟨⟨f0, f1, f2, f3, f4, f5, f6, f7, f8, f9⟩, _⟩ := Tx.blk10 F.out
            go_wp2_with fail
            clear c0 c1 c2 c3 c4 c5 c6 c7 c8 c9 d0 d1 d2 d3 d4 d5 d6 d7 d8 d9 e0 e1 e2 e3 e4 e5 e6 e7 e8 e9 f0 f1 f2 f3 f4 f5 f6 f7 f8 f9
            refine (cE.out he _ (HTB.out.on K.out)).mono ?_
            rintro e w22 ⟨rfl, b⟩
            replace K := Lib.hid (K.out.trans (b.mono K.out.size))
            replace GQ := Lib.hid (Tx.blk_on b GQ.out)
            replace O := Lib.hid (Tx.blk_on b O.out)
            replace E := Lib.hid (Tx.blk_on b E.out)
            replace F := Lib.hid (Tx.blk_on b F.out)
            replace J := Lib.hid (J.out.trans (b.mono J.out.size))
            have sw22 := b.size
            clear b
            obtain ⟨⟨c0, c1, c2, c3, c4, c5, c6, c7, c8, c9⟩, _⟩ := Tx.blk10 GQ.out
            obtain ⟨⟨d0, d1, d2, d3, d4, d5, d6, d7, d8, d9⟩, _⟩ := Tx.blk10 O.out
            obtain ⟨⟨e0, e1, e2, e3, e4, e5, e6, e7, e8, e9⟩, _⟩ := Tx.blk10 E.out
            obtain ⟨⟨f0, f1, f2, f3, f4, f5, f6, f7, f8, f9⟩, _⟩ := Tx.blk10 F.out
            go_wp2_with fail
            clear c0 c1 c2 c3 c4 c5 c6 c7 c8 c9 d0 d1 d2 d3 d4 d5 d6 d7 d8 d9 e0 e1 e2 e3 e4 e5 e6 e7 e8 e9 f0 f1 f2 f3 f4 f5 f6 f7 f8 f9
            refine (cF.out _ (HTB.out.on K.out)).mono ?_
            rintro e w23 ⟨rfl, b⟩
            replace K := Lib.hid (K.out.trans (b.mono K.out.size))
            replace GQ := Lib.hid (Tx.blk_on b GQ.out)
            replace O := Lib.hid (Tx.blk_on b O.out)
            replace E := Lib.hid (Tx.blk_on b E.out)
            replace F := Lib.hid (Tx.blk_on b F.out)
            replace J := Lib.hid (J.out.trans (b.mono J.out.size))
            have sw23 := b.size
            clear b
            by_cases h1 : qp = 1
            · have h1' : (qp != 1) = false := by simpa using h1
              clear h1
              obtain ⟨⟨c0, c1, c2, c3, c4, c5, c6, c7, c8, c9⟩, _⟩ := Tx.blk10 GQ.out
              obtain ⟨⟨d0, d1, d2, d3, d4, d5, d6, d7, d8, d9⟩, _⟩ := Tx.blk10 O.out
              obtain ⟨⟨e0, e1, e2, e3, e4, e5, e6, e7, e8, e9⟩, _⟩ := Tx.blk10 E.out
              obtain ⟨⟨f0, f1, f2, f3, f4, f5, f6, f7, f8, f9⟩, _⟩ := Tx.blk10 F.out
              go_wp2
              go_meet
              exact ⟨rfl, J.out⟩
            · have h1' : (qp != 1) = true := by simpa using h1
              obtain ⟨hk0, hk1⟩ := HK.out h1
              obtain ⟨rk, hrk⟩ : ∃ r, k % 1000 = r := ⟨_, rfl⟩
              have bk : 0 ≤ rk ∧ rk < 1000 := by omega
              have hrk' : k.tmod 1000 = rk := by rw [Int.tmod_eq_emod_of_nonneg (by omega)]; exact hrk
              clear hrk
              obtain ⟨⟨c0, c1, c2, c3, c4, c5, c6, c7, c8, c9⟩, _⟩ := Tx.blk10 GQ.out
              obtain ⟨⟨d0, d1, d2, d3, d4, d5, d6, d7, d8, d9⟩, _⟩ := Tx.blk10 O.out
              obtain ⟨⟨e0, e1, e2, e3, e4, e5, e6, e7, e8, e9⟩, _⟩ := Tx.blk10 E.out
              obtain ⟨⟨f0, f1, f2, f3, f4, f5, f6, f7, f8, f9⟩, _⟩ := Tx.blk10 F.out
              go_wp2_with fail
              clear c0 c1 c2 c3 c4 c5 c6 c7 c8 c9 d0 d1 d2 d3 d4 d5 d6 d7 d8 d9 e0 e1 e2 e3 e4 e5 e6 e7 e8 e9 f0 f1 f2 f3 f4 f5 f6 f7 f8 f9
              refine (cQ.out (rk + 1) _ (HTB.out.on K.out)).mono ?_
              rintro e w24 ⟨rfl, b⟩
              replace K := Lib.hid (K.out.trans (b.mono K.out.size))
              replace GQ := Lib.hid (Tx.blk_on b GQ.out)
              replace O := Lib.hid (Tx.blk_on b O.out)
              replace E := Lib.hid (Tx.blk_on b E.out)
              replace F := Lib.hid (Tx.blk_on b F.out)
              replace J := Lib.hid (J.out.trans (b.mono J.out.size))
              have sw24 := b.size
              clear b
              by_cases hk : rk + 1 = k
              · have hk' : (rk + 1 != k) = false := by simpa using hk
                clear hk
                generalize Tx.provesB ⟨qh, qd, qp, ⟨⟨yu, ys, yh, ya⟩, yn, yt, yp⟩⟩ (rk + 1) = zb
                cases zb
                · obtain ⟨⟨c0, c1, c2, c3, c4, c5, c6, c7, c8, c9⟩, _⟩ := Tx.blk10 GQ.out
                  obtain ⟨⟨d0, d1, d2, d3, d4, d5, d6, d7, d8, d9⟩, _⟩ := Tx.blk10 O.out
                  obtain ⟨⟨e0, e1, e2, e3, e4, e5, e6, e7, e8, e9⟩, _⟩ := Tx.blk10 E.out
                  obtain ⟨⟨f0, f1, f2, f3, f4, f5, f6, f7, f8, f9⟩, _⟩ := Tx.blk10 F.out
                  go_wp2
                  go_meet
                  exact ⟨rfl, J.out⟩
                · obtain ⟨⟨c0, c1, c2, c3, c4, c5, c6, c7, c8, c9⟩, _⟩ := Tx.blk10 GQ.out
                  obtain ⟨⟨d0, d1, d2, d3, d4, d5, d6, d7, d8, d9⟩, _⟩ := Tx.blk10 O.out
                  obtain ⟨⟨e0, e1, e2, e3, e4, e5, e6, e7, e8, e9⟩, _⟩ := Tx.blk10 E.out
                  obtain ⟨⟨f0, f1, f2, f3, f4, f5, f6, f7, f8, f9⟩, _⟩ := Tx.blk10 F.out
                  go_wp2
                  go_meet
                  exact ⟨rfl, J.out⟩
              · rw [HS.out (rk + 1) h1 hk]
                obtain ⟨⟨c0, c1, c2, c3, c4, c5, c6, c7, c8, c9⟩, _⟩ := Tx.blk10 GQ.out
                obtain ⟨⟨d0, d1, d2, d3, d4, d5, d6, d7, d8, d9⟩, _⟩ := Tx.blk10 O.out
                obtain ⟨⟨e0, e1, e2, e3, e4, e5, e6, e7, e8, e9⟩, _⟩ := Tx.blk10 E.out
                obtain ⟨⟨f0, f1, f2, f3, f4, f5, f6, f7, f8, f9⟩, _⟩ := Tx.blk10 F.out
                go_wp2
                go_meet
                exact ⟨rfl, J.out⟩
        · have ho' : (ro + 1 != qh) = true := by simpa using ho
          obtain ⟨⟨c0, c1, c2, c3, c4, c5, c6, c7, c8, c9⟩, _⟩ := Tx.blk10 GQ.out
          obtain ⟨⟨d0, d1, d2, d3, d4, d5, d6, d7, d8, d9⟩, _⟩ := Tx.blk10 O.out
          obtain ⟨⟨e0, e1, e2, e3, e4, e5, e6, e7, e8, e9⟩, _⟩ := Tx.blk10 E.out
          obtain ⟨⟨f0, f1, f2, f3, f4, f5, f6, f7, f8, f9⟩, _⟩ := Tx.blk10 F.out
          go_wp2_with fail
          clear c0 c1 c2 c3 c4 c5 c6 c7 c8 c9 d0 d1 d2 d3 d4 d5 d6 d7 d8 d9 e0 e1 e2 e3 e4 e5 e6 e7 e8 e9 f0 f1 f2 f3 f4 f5 f6 f7 f8 f9
          refine (cO.out ho _ (HTB.out.on K.out)).mono ?_
          rintro e w21 ⟨rfl, b⟩
          replace K := Lib.hid (K.out.trans (b.mono K.out.size))
          replace GQ := Lib.hid (Tx.blk_on b GQ.out)
          replace O := Lib.hid (Tx.blk_on b O.out)
          replace E := Lib.hid (Tx.blk_on b E.out)
          replace F := Lib.hid (Tx.blk_on b F.out)
          replace J := Lib.hid (J.out.trans (b.mono J.out.size))
          have sw21 := b.size
          clear b
          by_cases he : re + 1 = qd
          · have he' : (re + 1 != qd) = false := by simpa using he
            clear he
            obtain ⟨⟨c0, c1, c2, c3, c4, c5, c6, c7, c8, c9⟩, _⟩ := Tx.blk10 GQ.out
            obtain ⟨⟨d0, d1, d2, d3, d4, d5, d6, d7, d8, d9⟩, _⟩ := Tx.blk10 O.out
            obtain ⟨⟨e0, e1, e2, e3, e4, e5, e6, e7, e8, e9⟩, _⟩ := Tx.blk10 E.out
            obtain ⟨⟨f0, f1, f2, f3, f4, f5, f6, f7, f8, f9⟩, _⟩ := Tx.blk10 F.out
            go_wp2_with fail
            clear c0 c1 c2 c3 c4 c5 c6 c7 c8 c9 d0 d1 d2 d3 d4 d5 d6 d7 d8 d9 e0 e1 e2 e3 e4 e5 e6 e7 e8 e9 f0 f1 f2 f3 f4 f5 f6 f7 f8 f9
            refine (cF.out _ (HTB.out.on K.out)).mono ?_
            rintro e w23 ⟨rfl, b⟩
            replace K := Lib.hid (K.out.trans (b.mono K.out.size))
            replace GQ := Lib.hid (Tx.blk_on b GQ.out)
            replace O := Lib.hid (Tx.blk_on b O.out)
            replace E := Lib.hid (Tx.blk_on b E.out)
            replace F := Lib.hid (Tx.blk_on b F.out)
            replace J := Lib.hid (J.out.trans (b.mono J.out.size))
            have sw23 := b.size
            clear b
            by_cases h1 : qp = 1
            · have h1' : (qp != 1) = false := by simpa using h1
              clear h1
              obtain ⟨⟨c0, c1, c2, c3, c4, c5, c6, c7, c8, c9⟩, _⟩ := Tx.blk10 GQ.out
              obtain ⟨⟨d0, d1, d2, d3, d4, d5, d6, d7, d8, d9⟩, _⟩ := Tx.blk10 O.out
              obtain ⟨⟨e0, e1, e2, e3, e4, e5, e6, e7, e8, e9⟩, _⟩ := Tx.blk10 E.out
              obtain ⟨⟨f0, f1, f2, f3, f4, f5, f6, f7, f8, f9⟩, _⟩ := Tx.blk10 F.out
              go_wp2
              go_meet
              exact ⟨rfl, J.out⟩
            · have h1' : (qp != 1) = true := by simpa using h1
              obtain ⟨hk0, hk1⟩ := HK.out h1
              obtain ⟨rk, hrk⟩ : ∃ r, k % 1000 = r := ⟨_, rfl⟩
              have bk : 0 ≤ rk ∧ rk < 1000 := by omega
              have hrk' : k.tmod 1000 = rk := by rw [Int.tmod_eq_emod_of_nonneg (by omega)]; exact hrk
              clear hrk
              obtain ⟨⟨c0, c1, c2, c3, c4, c5, c6, c7, c8, c9⟩, _⟩ := Tx.blk10 GQ.out
              obtain ⟨⟨d0, d1, d2, d3, d4, d5, d6, d7, d8, d9⟩, _⟩ := Tx.blk10 O.out
              obtain ⟨⟨e0, e1, e2, e3, e4, e5, e6, e7, e8, e9⟩, _⟩ := Tx.blk10 E.out
              obtain ⟨⟨f0, f1, f2, f3, f4, f5, f6, f7, f8, f9⟩, _⟩ := Tx.blk10 F.out
              go_wp2_with fail
              clear c0 c1 c2 c3 c4 c5 c6 c7 c8 c9 d0 d1 d2 d3 d4 d5 d6 d7 d8 d9 e0 e1 e2 e3 e4 e5 e6 e7 e8 e9 f0 f1 f2 f3 f4 f5 f6 f7 f8 f9
              refine (cQ.out (rk + 1) _ (HTB.out.on K.out)).mono ?_
              rintro e w24 ⟨rfl, b⟩
              replace K := Lib.hid (K.out.trans (b.mono K.out.size))
              replace GQ := Lib.hid (Tx.blk_on b GQ.out)
              replace O := Lib.hid (Tx.blk_on b O.out)
              replace E := Lib.hid (Tx.blk_on b E.out)
              replace F := Lib.hid (Tx.blk_on b F.out)
              replace J := Lib.hid (J.out.trans (b.mono J.out.size))
              have sw24 := b.size
              clear b
              by_cases hk : rk + 1 = k
              · have hk' : (rk + 1 != k) = false := by simpa using hk
                clear hk
                generalize Tx.provesB ⟨qh, qd, qp, ⟨⟨yu, ys, yh, ya⟩, yn, yt, yp⟩⟩ (rk + 1) = zb
                cases zb
                · obtain ⟨⟨c0, c1, c2, c3, c4, c5, c6, c7, c8, c9⟩, _⟩ := Tx.blk10 GQ.out
                  obtain ⟨⟨d0, d1, d2, d3, d4, d5, d6, d7, d8, d9⟩, _⟩ := Tx.blk10 O.out
                  obtain ⟨⟨e0, e1, e2, e3, e4, e5, e6, e7, e8, e9⟩, _⟩ := Tx.blk10 E.out
                  obtain ⟨⟨f0, f1, f2, f3, f4, f5, f6, f7, f8, f9⟩, _⟩ := Tx.blk10 F.out
                  go_wp2
                  go_meet
                  exact ⟨rfl, J.out⟩
                · obtain ⟨⟨c0, c1, c2, c3, c4, c5, c6, c7, c8, c9⟩, _⟩ := Tx.blk10 GQ.out
                  obtain ⟨⟨d0, d1, d2, d3, d4, d5, d6, d7, d8, d9⟩, _⟩ := Tx.blk10 O.out
                  obtain ⟨⟨e0, e1, e2, e3, e4, e5, e6, e7, e8, e9⟩, _⟩ := Tx.blk10 E.out
                  obtain ⟨⟨f0, f1, f2, f3, f4, f5, f6, f7, f8, f9⟩, _⟩ := Tx.blk10 F.out
                  go_wp2
                  go_meet
                  exact ⟨rfl, J.out⟩
              · rw [HS.out (rk + 1) h1 hk]
                obtain ⟨⟨c0, c1, c2, c3, c4, c5, c6, c7, c8, c9⟩, _⟩ := Tx.blk10 GQ.out
                obtain ⟨⟨d0, d1, d2, d3, d4, d5, d6, d7, d8, d9⟩, _⟩ := Tx.blk10 O.out
                obtain ⟨⟨e0, e1, e2, e3, e4, e5, e6, e7, e8, e9⟩, _⟩ := Tx.blk10 E.out
                obtain ⟨⟨f0, f1, f2, f3, f4, f5, f6, f7, f8, f9⟩, _⟩ := Tx.blk10 F.out
                go_wp2
                go_meet
                exact ⟨rfl, J.out⟩
          · have he' : (re + 1 != qd) = true := by simpa using he
            obtain ⟨⟨c0, c1, c2, c3, c4, c5, c6, c7, c8, c9⟩, _⟩ := Tx.blk10 GQ.out
            obtain ⟨⟨d0, d1, d2, d3, d4, d5, d6, d7, d8, d9⟩, _⟩ := Tx.blk10 O.out
            obtain ⟨⟨e0, e1, e2, e3, e4, e5, e6, e7, e8, e9⟩, _⟩ := Tx.blk10 E.out
            obtain ⟨⟨f0, f1, f2, f3, f4, f5, f6, f7, f8, f9⟩, _⟩ := Tx.blk10 F.out
            go_wp2_with fail
            clear c0 c1 c2 c3 c4 c5 c6 c7 c8 c9 d0 d1 d2 d3 d4 d5 d6 d7 d8 d9 e0 e1 e2 e3 e4 e5 e6 e7 e8 e9 f0 f1 f2 f3 f4 f5 f6 f7 f8 f9
            refine (cE.out he _ (HTB.out.on K.out)).mono ?_
            rintro e w22 ⟨rfl, b⟩
            replace K := Lib.hid (K.out.trans (b.mono K.out.size))
            replace GQ := Lib.hid (Tx.blk_on b GQ.out)
            replace O := Lib.hid (Tx.blk_on b O.out)
            replace E := Lib.hid (Tx.blk_on b E.out)
            replace F := Lib.hid (Tx.blk_on b F.out)
            replace J := Lib.hid (J.out.trans (b.mono J.out.size))
            have sw22 := b.size
            clear b
            obtain ⟨⟨c0, c1, c2, c3, c4, c5, c6, c7, c8, c9⟩, _⟩ := Tx.blk10 GQ.out
            obtain ⟨⟨d0, d1, d2, d3, d4, d5, d6, d7, d8, d9⟩, _⟩ := Tx.blk10 O.out
            obtain ⟨⟨e0, e1, e2, e3, e4, e5, e6, e7, e8, e9⟩, _⟩ := Tx.blk10 E.out
            obtain ⟨⟨f0, f1, f2, f3, f4, f5, f6, f7, f8, f9⟩, _⟩ := Tx.blk10 F.out
            go_wp2_with fail
            clear c0 c1 c2 c3 c4 c5 c6 c7 c8 c9 d0 d1 d2 d3 d4 d5 d6 d7 d8 d9 e0 e1 e2 e3 e4 e5 e6 e7 e8 e9 f0 f1 f2 f3 f4 f5 f6 f7 f8 f9
            refine (cF.out _ (HTB.out.on K.out)).mono ?_
            rintro e w23 ⟨rfl, b⟩
            replace K := Lib.hid (K.out.trans (b.mono K.out.size))
            replace GQ := Lib.hid (Tx.blk_on b GQ.out)
            replace O := Lib.hid (Tx.blk_on b O.out)
            replace E := Lib.hid (Tx.blk_on b E.out)
            replace F := Lib.hid (Tx.blk_on b F.out)
            replace J := Lib.hid (J.out.trans (b.mono J.out.size))
            have sw23 := b.size
            clear b
            by_cases h1 : qp = 1
            · have h1' : (qp != 1) = false := by simpa using h1
              clear h1
              obtain ⟨⟨c0, c1, c2, c3, c4, c5, c6, c7, c8, c9⟩, _⟩ := Tx.blk10 GQ.out
              obtain ⟨⟨d0, d1, d2, d3, d4, d5, d6, d7, d8, d9⟩, _⟩ := Tx.blk10 O.out
              obtain ⟨⟨e0, e1, e2, e3, e4, e5, e6, e7, e8, e9⟩, _⟩ := Tx.blk10 E.out
              obtain ⟨⟨f0, f1, f2, f3, f4, f5, f6, f7, f8, f9⟩, _⟩ := Tx.blk10 F.out
              go_wp2
              go_meet
              exact ⟨rfl, J.out⟩
            · have h1' : (qp != 1) = true := by simpa using h1
              obtain ⟨hk0, hk1⟩ := HK.out h1
              obtain ⟨rk, hrk⟩ : ∃ r, k % 1000 = r := ⟨_, rfl⟩
              have bk : 0 ≤ rk ∧ rk < 1000 := by omega
              have hrk' : k.tmod 1000 = rk := by rw [Int.tmod_eq_emod_of_nonneg (by omega)]; exact hrk
              clear hrk
              obtain ⟨⟨c0, c1, c2, c3, c4, c5, c6, c7, c8, c9⟩, _⟩ := Tx.blk10 GQ.out
              obtain ⟨⟨d0, d1, d2, d3, d4, d5, d6, d7, d8, d9⟩, _⟩ := Tx.blk10 O.out
              obtain ⟨⟨e0, e1, e2, e3, e4, e5, e6, e7, e8, e9⟩, _⟩ := Tx.blk10 E.out
              obtain ⟨⟨f0, f1, f2, f3, f4, f5, f6, f7, f8, f9⟩, _⟩ := Tx.blk10 F.out
              go_wp2_with fail
              clear c0 c1 c2 c3 c4 c5 c6 c7 c8 c9 d0 d1 d2 d3 d4 d5 d6 d7 d8 d9 e0 e1 e2 e3 e4 e5 e6 e7 e8 e9 f0 f1 f2 f3 f4 f5 f6 f7 f8 f9
              refine (cQ.out (rk + 1) _ (HTB.out.on K.out)).mono ?_
              rintro e w24 ⟨rfl, b⟩
              replace K := Lib.hid (K.out.trans (b.mono K.out.size))
              replace GQ := Lib.hid (Tx.blk_on b GQ.out)
              replace O := Lib.hid (Tx.blk_on b O.out)
              replace E := Lib.hid (Tx.blk_on b E.out)
              replace F := Lib.hid (Tx.blk_on b F.out)
              replace J := Lib.hid (J.out.trans (b.mono J.out.size))
              have sw24 := b.size
              clear b
              by_cases hk : rk + 1 = k
              · have hk' : (rk + 1 != k) = false := by simpa using hk
                clear hk
                generalize Tx.provesB ⟨qh, qd, qp, ⟨⟨yu, ys, yh, ya⟩, yn, yt, yp⟩⟩ (rk + 1) = zb
                cases zb
                · obtain ⟨⟨c0, c1, c2, c3, c4, c5, c6, c7, c8, c9⟩, _⟩ := Tx.blk10 GQ.out
                  obtain ⟨⟨d0, d1, d2, d3, d4, d5, d6, d7, d8, d9⟩, _⟩ := Tx.blk10 O.out
                  obtain ⟨⟨e0, e1, e2, e3, e4, e5, e6, e7, e8, e9⟩, _⟩ := Tx.blk10 E.out
                  obtain ⟨⟨f0, f1, f2, f3, f4, f5, f6, f7, f8, f9⟩, _⟩ := Tx.blk10 F.out
                  go_wp2
                  go_meet
                  exact ⟨rfl, J.out⟩
                · obtain ⟨⟨c0, c1, c2, c3, c4, c5, c6, c7, c8, c9⟩, _⟩ := Tx.blk10 GQ.out
                  obtain ⟨⟨d0, d1, d2, d3, d4, d5, d6, d7, d8, d9⟩, _⟩ := Tx.blk10 O.out
                  obtain ⟨⟨e0, e1, e2, e3, e4, e5, e6, e7, e8, e9⟩, _⟩ := Tx.blk10 E.out
                  obtain ⟨⟨f0, f1, f2, f3, f4, f5, f6, f7, f8, f9⟩, _⟩ := Tx.blk10 F.out
                  go_wp2
                  go_meet
                  exact ⟨rfl, J.out⟩
              · rw [HS.out (rk + 1) h1 hk]
                obtain ⟨⟨c0, c1, c2, c3, c4, c5, c6, c7, c8, c9⟩, _⟩ := Tx.blk10 GQ.out
                obtain ⟨⟨d0, d1, d2, d3, d4, d5, d6, d7, d8, d9⟩, _⟩ := Tx.blk10 O.out
                obtain ⟨⟨e0, e1, e2, e3, e4, e5, e6, e7, e8, e9⟩, _⟩ := Tx.blk10 E.out
                obtain ⟨⟨f0, f1, f2, f3, f4, f5, f6, f7, f8, f9⟩, _⟩ := Tx.blk10 F.out
                go_wp2
                go_meet
                exact ⟨rfl, J.out⟩
      case rest =>
        obtain ⟨rfl, b⟩ := hcut
        clear O E F GQ
        replace K := Lib.hid (K.out.trans (b.mono K.out.size))
        replace GA := Lib.hid (Tx.blk_on b GA.out)
        clear b
        cases is with
        | false =>
          have e0 := HN.out rfl
          injection e0 with p0 p1 p2 p3
          injection p3 with p4 p5 p6 p7
          injection p4 with p8 p9 p10 p11
          subst p0; subst p1; subst p2; subst p5; subst p6; subst p7; subst p8; subst p9; subst p10; subst p11
          have hez := Tx.eq_ans_self 0 0 0 0 0 0 0 0 ⟨#[]⟩ false
          obtain ⟨⟨e0, e1, e2, e3, e4, e5, e6, e7, e8, e9⟩, _⟩ := Tx.blk10 GA.out
          go_wp2
          go_ret
          exact ⟨rfl, K.out⟩
        | true =>
          obtain ⟨hy1, hy2, hy3, hy4⟩ := HY.out rfl
          subst hy3; subst hy4
          have HY1 := Lib.hid hy1
          have HY2 := Lib.hid hy2
          clear hy1 hy2 HY HN
          obtain ⟨⟨e0, e1, e2, e3, e4, e5, e6, e7, e8, e9⟩, _⟩ := Tx.blk10 GA.out
          go_wp2_with fail
          clear e0 e1 e2 e3 e4 e5 e6 e7 e8 e9
          refine (Tx.AnswerOk_impl ⟨ah, ad, ap, ⟨⟨xu, xs, xh, xa⟩, xn, xt, xp⟩⟩ _).mono ?_
          rintro e w40 ⟨rfl, b⟩
          replace K := Lib.hid (K.out.trans (b.mono K.out.size))
          replace GA := Lib.hid (Tx.blk_on b GA.out)
          have sw40 := b.size
          clear b
          rw [HY2.out]
          obtain ⟨⟨e0, e1, e2, e3, e4, e5, e6, e7, e8, e9⟩, _⟩ := Tx.blk10 GA.out
          go_wp2_with fail
          clear e0 e1 e2 e3 e4 e5 e6 e7 e8 e9
          refine (Tx.Proves_impl ⟨ah, ad, ap, ⟨⟨xu, xs, xh, xa⟩, xn, xt, xp⟩⟩ s hi _ (HTB.out.on K.out)).mono ?_
          rintro e w41 ⟨rfl, b⟩
          replace K := Lib.hid (K.out.trans (b.mono K.out.size))
          replace GA := Lib.hid (Tx.blk_on b GA.out)
          have sw41 := b.size
          clear b
          rw [HY1.out]
          obtain ⟨⟨e0, e1, e2, e3, e4, e5, e6, e7, e8, e9⟩, _⟩ := Tx.blk10 GA.out
          go_wp2
          go_ret
          exact ⟨rfl, K.out⟩

theorem door_met (os : Os) (args : Array Value) : laidMetH Tryd.prog Rows.fnAnswersRow.laid ((Tx.doorWorld os).forCall (fun _ _ => 0) ⟨#[], args, []⟩).memory := by
  rw [MakeChecks.laidMetH_plain _ _ _ (by kernel_rfl)]
  exact laidMet_of_run' 8 (by kernel_rfl) (by kernel_rfl)
theorem tab {W : World} (h : laidMetH Tryd.prog Rows.fnAnswersRow.laid W) : Tx.Tab W := by
  rw [MakeChecks.laidMetH_plain _ _ _ (by kernel_rfl)] at h
  exact Tx.tab_of (laidMet.tail (laidMet.tail h))

theorem own : ownKnob Tryd.prog.godebug = none := by kernel_rfl
theorem laidOut : laidOutB Tryd.prog = true := by kernel_rfl

set_option maxRecDepth 100000 in
theorem lifted (os : Os) (started : os.Started) (H : Type) (enc : TypeId × Value → H) :
    ReturnsInHanded {} Tryd.checked os 3 .any (fun w args => (Rows.fnAnswersSpec.pre enc Tryd.prog Tryd.f3 [] false w args ∧ laidMetH Tryd.prog Rows.fnAnswersRow.laid w) ∧ sizedMet enc Tryd.prog Tryd.f3 (OpenSpec.ofChange Rows.fnAnswersSpec) false w args)
      (Rows.fnAnswersSpec.post enc Tryd.prog Tryd.f3 false true false false) := by
  refine returnsInHanded_of_change_and (C := Tryd.checked) (X := fun w _ => laidMetH Tryd.prog Rows.fnAnswersRow.laid w) (fun _ _ _ hh h => h.of_heap hh) own started (by kernel_rfl) Tryd.func3
    (ChangeSpec.witness_shaped (enc := enc) (C := Tryd.checked) (os := os) (X := fun w _ => laidMetH Tryd.prog Rows.fnAnswersRow.laid w) false (Tx.doorWorld os) #[.slice none 0 0] 8 rfl (Tx.door_shaped os _) (by kernel_rfl) (by kernel_rfl) (by kernel_rfl) (door_met os _)) ?_
  intro W base args ds gs before hval0 hW _ _ hL hsh
  have hval : ∀ (j : Nat) t v, Tryd.f3.params[j]? = some t → args[j]? = some v → Value.okWide Tryd.prog W .any base t v := hval0
  have hW' := hW
  obtain ⟨p, q, hA0, hV, rfl, hfz, hnd⟩ := hW
  have hA : DataW.TrodAll enc Tryd.prog W 0 (fun _ => true) true Tryd.f3.params.toList args.toList ds p := hA0
  rw [Tryd.params3] at hA hval
  obtain ⟨v0, vs0, d0, ds0, p0, q0, hargs, rfl, rfl, h0, r0⟩ := trodAll_cons hA
  obtain ⟨rfl, rfl, rfl⟩ := trodAll_nil r0
  obtain rfl : args = #[v0] := by cases args; simp_all
  obtain ⟨rfl, rfl⟩ := trodVars_none hV
  have k0 := h0
  have lt0 : ∀ x ∈ p0, x.block < W.heap.size := by obtain ⟨m, hm⟩ := k0; exact DataW.trod_lt m _ _ _ hm
  obtain ⟨a0, len0, cap0, rfl⟩ := okWide_slice Tryd.underlying22 (hval 0 22 v0 rfl rfl)
  have w0 : Tx.BytesAt W W.heap.size a0 len0 ∧ len0 ≤ maxLen := by
    obtain ⟨fuel, hf⟩ := h0
    rcases open_ints Tryd.underlying22 Tryd.underlying5 (by kernel_rfl) hf with ⟨hcs, _⟩ | ⟨x, l, c, zs, hcs, _, hl, hm, hz, _, hcell, hwz⟩
    · simp [Value.cells] at hcs
      obtain ⟨rfl, rfl, rfl⟩ := hcs
      exact ⟨fun h => absurd h (by omega), by unfold maxLen; omega⟩
    · simp [Value.cells] at hcs
      obtain ⟨rfl, rfl, rfl⟩ := hcs
      simp only [if_true] at hz
      exact ⟨Tx.bytesAt_of_ints (by omega) hcell fun n hn => bounds_u8 (hwz n hn), by omega⟩
  clear hA0 hval0
  refine (walk W a0 len0 cap0 w0.1 w0.2 (tab hL)).mono fun e W' ⟨he, bel⟩ => ?_
  subst he
  exact ⟨_, rfl, _, _, _, [], _, [], hW', trodAll_mk1 (shut_bool Tryd.underlying4 _), (trodAll_cons_mk (Below.trod laidOut (by kernel_rfl) (of_decide_eq_true (by kernel_rfl)) k0 bel lt0) trodAll_mk0), rfl, bel.frame _, fun h => by cases h⟩

theorem over : Rows.fnAnswersRow.holds Tryd.pinned (OpenSpec.ofChange Rows.fnAnswersSpec) :=
  OpenClaim.holds_of_wide 3 Tryd.f3 rfl rfl rfl rfl rfl rfl rfl ⟨rfl, rfl, rfl, rfl, rfl⟩ rfl rfl rfl rfl rfl (by kernel_rfl) Tryd.func3 (by kernel_rfl)
    (of_decide_eq_true (by kernel_rfl)) (by unfold Func.isWrapper; first | (rw [if_pos (by decide +kernel)]; kernel_rfl) | (rw [if_neg (by decide +kernel)]; exact ⟨rfl, rfl⟩))
    (fun os started H enc _ => lifted os started H enc)

end Go.Proofs.YtdnkpdfhnpmhbaaDoor.fnAnswers

namespace Go.Proofs.YtdnkpdfhnpmhbaaDoor
theorem fnAnswers_proved : Rows.FnAnswersCardSaid :=
  Claim7.holds_tied_plain_at .later [] Rows.fnAnswersCard.laidKinds true Rows.fnAnswersCard.stood.harness true
    fnAnswers.over (fun _ h => by cases h) (by kernel_rfl) (fun _ h => by cases h) fnAnswers_row_tie rfl ⟨rfl, rfl⟩ (by kernel_rfl) rfl
    (fun f fn hf hfn => by
      obtain rfl : f = 3 := Option.some.inj ((show Tryd.prog.funcNamed Rows.fnAnswersRow.func = some 3 by kernel_rfl).symm.trans hf) |>.symm
      obtain rfl : fn = Tryd.f3 := (Option.some.inj (Tryd.func3.symm.trans hfn)).symm
      exact ⟨by kernel_rfl, fun j t ht => by
        rw [Tryd.params3] at ht
        have hm : t ∈ [22] := by simpa using Array.mem_of_getElem? ht
        have hall : ([22].all fun u => !Tryd.prog.wantsStandIn u) = true := by kernel_rfl
        exact (show Tryd.prog.wantsStandIn t = false by simpa using List.all_eq_true.1 hall t hm)⟩)
    (by kernel_rfl)
#print axioms fnAnswers_proved
end Go.Proofs.YtdnkpdfhnpmhbaaDoor

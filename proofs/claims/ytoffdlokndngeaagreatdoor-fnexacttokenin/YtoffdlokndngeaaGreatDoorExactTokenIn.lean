/-
  The law FnExactTokenIn returns true at every number, greeting and time, and they read behind the call as they read before: TokenIn of the program and of the model answer alike. Conditions: those that the card itself names (the listed variables of the library hold what its text lays in them).
-/
import Derived.Test.YtoffdlokndngeaaGreatDoorRows
import Derived.WalkKit
import Derived.ProofKit
import Derived.OpenShut
import Derived.ShutString
import Derived.ChangeOld
import Derived.Below
import Derived.SliceStrings
import Derived.Lib.SmallJoins
import Derived.Test.YtoffdlokndngeaaGreatDoorCards
import Derived.Test.YtoffdlokndngeaaGreatDoorTie
import Derived.LaidMore
import Derived.Stop.Joined
import Derived.SevenTiedAt
import Derived.Test.YtoffdlokndngeaaGreatDoorOpen9
import Derived.Test.YtoffdlokndngeaaGreatDoorPick
import Derived.Test.YtoffdlokndngeaaGreatDoorImpl10
import Derived.Test.YtoffdlokndngeaaGreatDoorLaid2
namespace Go.Proofs.YtoffdlokndngeaaGreatDoor.fnExactTokenIn
open Go.ChangeShapes Go.WideShapes Go.ChangeAt Go.RowKit
open Go.ChangeMaps (open_string shut_string)
set_option linter.unusedVariables false

set_option maxRecDepth 100000 in
set_option maxHeartbeats 16000000 in
theorem walk (w : World) (inn : Int) (_ : (Lit.int .i64 inn).wf = true) (q : Tx.HelV) (hq : q.x.t.size ≤ maxLen ∧ q.y.t.size ≤ maxLen) (now : Int) (_ : (Lit.int .i64 now).wf = true) (hglob : Tx.Glob w) :
    Calls Tryz.prog 4 #[.int .i64 inn, q.val, .int .i64 now] w fun e w' => e = .returned (.bool true) ∧ Below w.heap.size w w' := by
  have HGB := Lib.hid hglob
  clear hglob
  obtain ⟨d, ag, ⟨⟨xu, xs, xh, xa⟩, xn, xt, xp⟩, g, ⟨⟨yu, ys, yh, ya⟩, yn, yt, yp⟩, ea⟩ := q
  have HV : Hid (Tx.HelV.val ⟨d, ag, ⟨⟨xu, xs, xh, xa⟩, xn, xt, xp⟩, g, ⟨⟨yu, ys, yh, ya⟩, yn, yt, yp⟩, ea⟩ = .agg #[.int .i64 d, .bool ag, .int .i64 xu, .int .i64 xs, .int .i64 xh, .int .i64 xa, .int .i64 xn, .string xt, .bool xp, .int .i64 g, .int .i64 yu, .int .i64 ys, .int .i64 yh, .int .i64 ya, .int .i64 yn, .string yt, .bool yp, .bool ea]) := rfl
  have hx : xt.size ≤ 9223372036854775807 := by have e : (2 : Nat) ^ 63 - 1 = 9223372036854775807 := rfl; rw [← e]; exact hq.1
  have hy : yt.size ≤ 9223372036854775807 := by have e : (2 : Nat) ^ 63 - 1 = 9223372036854775807 := rfl; rw [← e]; exact hq.2
  clear hq
  have cT : Hid (∀ w' : World, Calls Tryz.prog 22 #[.agg #[.int .i64 d, .bool ag, .int .i64 xu, .int .i64 xs, .int .i64 xh, .int .i64 xa, .int .i64 xn, .string xt, .bool xp, .int .i64 g, .int .i64 yu, .int .i64 ys, .int .i64 yh, .int .i64 ya, .int .i64 yn, .string yt, .bool yp, .bool ea]] w' fun e w'' => e = .returned (.agg #[.int .i64 d, .bool ag, .int .i64 xu, .int .i64 xs, .int .i64 xh, .int .i64 xa, .int .i64 xn, .string xt, .bool xp, .int .i64 g, .int .i64 yu, .int .i64 ys, .int .i64 yh, .int .i64 ya, .int .i64 yn, .string yt, .bool yp, .bool ea]) ∧ Below w'.heap.size w' w'') := fun w' => by exact Tx.toHello_any ⟨d, ag, ⟨⟨xu, xs, xh, xa⟩, xn, xt, xp⟩, g, ⟨⟨yu, ys, yh, ya⟩, yn, yt, yp⟩, ea⟩ w'
  have cZ : Hid (∀ w' : World, Calls Tryz.prog 21 #[.agg #[.int .i64 d, .bool ag, .int .i64 xu, .int .i64 xs, .int .i64 xh, .int .i64 xa, .int .i64 xn, .string xt, .bool xp, .int .i64 g, .int .i64 yu, .int .i64 ys, .int .i64 yh, .int .i64 ya, .int .i64 yn, .string yt, .bool yp, .bool ea], .int .i64 1048576] w' fun e w'' => ∃ l, e = .returned (.int .i64 l) ∧ Below w'.heap.size w' w'') := fun w' => Tx.szHello_any ⟨d, ag, ⟨⟨xu, xs, xh, xa⟩, xn, xt, xp⟩, g, ⟨⟨yu, ys, yh, ya⟩, yn, yt, yp⟩, ea⟩ hx hy 1048576 (by omega) (by omega) w'
  have cS := Lib.hid fun w' => Tx.TokenIn_spec inn ⟨d, ag, ⟨⟨xu, xs, xh, xa⟩, xn, xt, xp⟩, g, ⟨⟨yu, ys, yh, ya⟩, yn, yt, yp⟩, ea⟩ now w'
  have cI := Lib.hid fun (w' : World) hG => Tx.TokenIn_impl inn ⟨d, ag, ⟨⟨xu, xs, xh, xa⟩, xn, xt, xp⟩, g, ⟨⟨yu, ys, yh, ya⟩, yn, yt, yp⟩, ea⟩ now w' hG
  rw [HV.out] at cS cI ⊢
  generalize (Tx.tokenInO inn ⟨d, ag, ⟨⟨xu, xs, xh, xa⟩, xn, xt, xp⟩, g, ⟨⟨yu, ys, yh, ya⟩, yn, yt, yp⟩, ea⟩ now).isSome = y at cS cI
  generalize (Tx.tokenInO inn ⟨d, ag, ⟨⟨xu, xs, xh, xa⟩, xn, xt, xp⟩, g, ⟨⟨yu, ys, yh, ya⟩, yn, yt, yp⟩, ea⟩ now).getD .zero = t at cS cI
  obtain ⟨ts, tb, tl, tm, ⟨⟨pu, ps, ph, pa⟩, pn, pt, pp⟩⟩ := t
  have HT : Hid (Tx.TokV.val ⟨ts, tb, tl, tm, ⟨⟨pu, ps, ph, pa⟩, pn, pt, pp⟩⟩ = .agg #[.int .i64 ts, .int .i64 tb, .int .i64 tl, .int .i64 tm, .int .i64 pu, .int .i64 ps, .int .i64 ph, .int .i64 pa, .int .i64 pn, .string pt, .bool pp]) := rfl
  rw [HT.out] at cS cI
  have cE : Hid (∀ w' : World, Calls Tryz.prog 23 #[.agg #[.int .i64 ts, .int .i64 tb, .int .i64 tl, .int .i64 tm, .int .i64 pu, .int .i64 ps, .int .i64 ph, .int .i64 pa, .int .i64 pn, .string pt, .bool pp], .agg #[.int .i64 ts, .int .i64 tb, .int .i64 tl, .int .i64 tm, .int .i64 pu, .int .i64 ps, .int .i64 ph, .int .i64 pa, .int .i64 pn, .string pt, .bool pp]] w' fun e w'' => e = .returned (.bool true) ∧ Below w'.heap.size w' w'') := fun w' => by exact Tx.eqToken_same ⟨ts, tb, tl, tm, ⟨⟨pu, ps, ph, pa⟩, pn, pt, pp⟩⟩ w'
  have hyy : (y != y) = false := by simp
  clear HV HT hx hy
  obtain ⟨W0, hW0⟩ : ∃ W, w.alloc (.cells #[.int .i64 d, .bool ag, .int .i64 xu, .int .i64 xs, .int .i64 xh, .int .i64 xa, .int .i64 xn, .string xt, .bool xp, .int .i64 g, .int .i64 yu, .int .i64 ys, .int .i64 yh, .int .i64 ya, .int .i64 yn, .string yt, .bool yp, .bool ea] 54) = W := ⟨_, rfl⟩
  have K0 : Hid (Below w.heap.size w W0) := by rw [← hW0]; exact (Below.refl _ w).alloc (Nat.le_refl _) _
  have Q0 : Hid (W0.heap[w.heap.size]? = some (.cells #[.int .i64 d, .bool ag, .int .i64 xu, .int .i64 xs, .int .i64 xh, .int .i64 xa, .int .i64 xn, .string xt, .bool xp, .int .i64 g, .int .i64 yu, .int .i64 ys, .int .i64 yh, .int .i64 ya, .int .i64 yn, .string yt, .bool yp, .bool ea] 54)) := by rw [← hW0]; exact Tx.heap1 w _
  go_enter Tryz.func4, Tryz.ntmps4
  go_wp2_with (refine wpList_load_row rfl 54 _ rfl (w.heap.size) rfl 54 _ (0, 0) _ Q0.out Tryz.underlying54 rfl (by kernel_rfl) ?_)
  clear hW0
  refine (cZ.out _).mono ?_
  rintro e w2 ⟨l, rfl, hb⟩
  have Q1 := Lib.hid (Tx.blk_on hb Q0.out)
  have K1 := Lib.hid (K0.out.trans (hb.mono K0.out.size))
  clear hb Q0 K0
  by_cases hl : l < 0
  ·
    go_wp2
    go_ret
    exact ⟨rfl, K1.out⟩
  go_wp2_with (refine wpList_load_row rfl 54 _ rfl (w.heap.size) rfl 54 _ (0, 0) _ Q1.out Tryz.underlying54 rfl (by kernel_rfl) ?_)
  refine (cT.out _).mono ?_
  rintro e w3 ⟨rfl, hb⟩
  have Q2 := Lib.hid (Tx.blk_on hb Q1.out)
  have K2 := Lib.hid (K1.out.trans (hb.mono K1.out.size))
  clear hb Q1 K1
  go_wp2_with fail
  refine (cS.out _).mono ?_
  rintro e w4 ⟨rfl, hb⟩
  have Q3 := Lib.hid (Tx.blk_on hb Q2.out)
  have K3 := Lib.hid (K2.out.trans (hb.mono K2.out.size))
  clear hb Q2 K2
  obtain ⟨V5, hV5⟩ : ∃ V, w4.alloc (.cells #[.int .i64 0, .int .i64 0, .int .i64 0, .int .i64 0, .int .i64 0, .int .i64 0, .int .i64 0, .int .i64 0, .int .i64 0, .string ⟨#[]⟩, .bool false] 39) = V := ⟨_, rfl⟩
  have ltV5Q : w.heap.size < w4.heap.size := Tx.blk_in Q3.out
  have Q4 : Hid (V5.heap[w.heap.size]? = some (.cells #[.int .i64 d, .bool ag, .int .i64 xu, .int .i64 xs, .int .i64 xh, .int .i64 xa, .int .i64 xn, .string xt, .bool xp, .int .i64 g, .int .i64 yu, .int .i64 ys, .int .i64 yh, .int .i64 ya, .int .i64 yn, .string yt, .bool yp, .bool ea] 54)) := by rw [← hV5]; exact Tx.alloc_blk Q3.out
  have hb : Below w4.heap.size w4 V5 := by rw [← hV5]; exact (Below.refl _ w4).alloc (Nat.le_refl _) _
  have K4 := Lib.hid (K3.out.trans (hb.mono K3.out.size))
  have GA4 : Hid (V5.heap[w4.heap.size]? = some (.cells #[.int .i64 0, .int .i64 0, .int .i64 0, .int .i64 0, .int .i64 0, .int .i64 0, .int .i64 0, .int .i64 0, .int .i64 0, .string ⟨#[]⟩, .bool false] 39)) := by rw [← hV5]; exact Tx.heap1 w4 _
  have lbV5 : w.heap.size ≤ w4.heap.size := K3.out.size
  clear hb Q3 K3
  have Q5 : Hid ((V5.setRow w4.heap.size #[.int .i64 ts, .int .i64 tb, .int .i64 tl, .int .i64 tm, .int .i64 pu, .int .i64 ps, .int .i64 ph, .int .i64 pa, .int .i64 pn, .string pt, .bool pp]).heap[w.heap.size]? = some (.cells #[.int .i64 d, .bool ag, .int .i64 xu, .int .i64 xs, .int .i64 xh, .int .i64 xa, .int .i64 xn, .string xt, .bool xp, .int .i64 g, .int .i64 yu, .int .i64 ys, .int .i64 yh, .int .i64 ya, .int .i64 yn, .string yt, .bool yp, .bool ea] 54)) := (setRow_other _ _ _ _ (by omega)).trans Q4.out
  have GA5 : Hid ((V5.setRow w4.heap.size #[.int .i64 ts, .int .i64 tb, .int .i64 tl, .int .i64 tm, .int .i64 pu, .int .i64 ps, .int .i64 ph, .int .i64 pa, .int .i64 pn, .string pt, .bool pp]).heap[w4.heap.size]? = some (.cells #[.int .i64 ts, .int .i64 tb, .int .i64 tl, .int .i64 tm, .int .i64 pu, .int .i64 ps, .int .i64 ph, .int .i64 pa, .int .i64 pn, .string pt, .bool pp] 39)) := setRow_heap _ _ _ _ _ _ GA4.out
  have K5 : Hid (Below w.heap.size w (V5.setRow w4.heap.size #[.int .i64 ts, .int .i64 tb, .int .i64 tl, .int .i64 tm, .int .i64 pu, .int .i64 ps, .int .i64 ph, .int .i64 pa, .int .i64 pn, .string pt, .bool pp])) := below_setRow K4.out (by omega) _
  go_wp2_with (first | (refine wpList_store_row rfl 39 _ _ rfl (w4.heap.size) #[.int .i64 ts, .int .i64 tb, .int .i64 tl, .int .i64 tm, .int .i64 pu, .int .i64 ps, .int .i64 ph, .int .i64 pa, .int .i64 pn, .string pt, .bool pp] rfl rfl 39 _ GA4.out (by kernel_rfl) rfl (by simp [Value.oneCell']) ?_) | (refine wpList_load_row rfl 54 _ rfl (w.heap.size) rfl 54 _ (0, 0) _ Q5.out Tryz.underlying54 rfl (by kernel_rfl) ?_))
  clear hV5 Q4 GA4 K4
  generalize V5.setRow w4.heap.size #[.int .i64 ts, .int .i64 tb, .int .i64 tl, .int .i64 tm, .int .i64 pu, .int .i64 ps, .int .i64 ph, .int .i64 pa, .int .i64 pn, .string pt, .bool pp] = S6 at Q5 GA5 K5 ⊢
  refine (cT.out _).mono ?_
  rintro e w7 ⟨rfl, hb⟩
  have Q6 := Lib.hid (Tx.blk_on hb Q5.out)
  have GA6 := Lib.hid (Tx.blk_on hb GA5.out)
  have K6 := Lib.hid (K5.out.trans (hb.mono K5.out.size))
  clear hb Q5 GA5 K5
  go_wp2_with fail
  refine (cI.out _ (HGB.out.on K6.out)).mono ?_
  rintro e w8 ⟨rfl, hb⟩
  have Q7 := Lib.hid (Tx.blk_on hb Q6.out)
  have GA7 := Lib.hid (Tx.blk_on hb GA6.out)
  have K7 := Lib.hid (K6.out.trans (hb.mono K6.out.size))
  clear hb Q6 GA6 K6
  obtain ⟨V9, hV9⟩ : ∃ V, w8.alloc (.cells #[.int .i64 0, .int .i64 0, .int .i64 0, .int .i64 0, .int .i64 0, .int .i64 0, .int .i64 0, .int .i64 0, .int .i64 0, .string ⟨#[]⟩, .bool false] 39) = V := ⟨_, rfl⟩
  have ltV9Q : w.heap.size < w8.heap.size := Tx.blk_in Q7.out
  have ltV9GA : w4.heap.size < w8.heap.size := Tx.blk_in GA7.out
  have Q8 : Hid (V9.heap[w.heap.size]? = some (.cells #[.int .i64 d, .bool ag, .int .i64 xu, .int .i64 xs, .int .i64 xh, .int .i64 xa, .int .i64 xn, .string xt, .bool xp, .int .i64 g, .int .i64 yu, .int .i64 ys, .int .i64 yh, .int .i64 ya, .int .i64 yn, .string yt, .bool yp, .bool ea] 54)) := by rw [← hV9]; exact Tx.alloc_blk Q7.out
  have GA8 : Hid (V9.heap[w4.heap.size]? = some (.cells #[.int .i64 ts, .int .i64 tb, .int .i64 tl, .int .i64 tm, .int .i64 pu, .int .i64 ps, .int .i64 ph, .int .i64 pa, .int .i64 pn, .string pt, .bool pp] 39)) := by rw [← hV9]; exact Tx.alloc_blk GA7.out
  have hb : Below w8.heap.size w8 V9 := by rw [← hV9]; exact (Below.refl _ w8).alloc (Nat.le_refl _) _
  have K8 := Lib.hid (K7.out.trans (hb.mono K7.out.size))
  have GB8 : Hid (V9.heap[w8.heap.size]? = some (.cells #[.int .i64 0, .int .i64 0, .int .i64 0, .int .i64 0, .int .i64 0, .int .i64 0, .int .i64 0, .int .i64 0, .int .i64 0, .string ⟨#[]⟩, .bool false] 39)) := by rw [← hV9]; exact Tx.heap1 w8 _
  have lbV9 : w.heap.size ≤ w8.heap.size := K7.out.size
  clear hb Q7 GA7 K7
  have Q9 : Hid ((V9.setRow w8.heap.size #[.int .i64 ts, .int .i64 tb, .int .i64 tl, .int .i64 tm, .int .i64 pu, .int .i64 ps, .int .i64 ph, .int .i64 pa, .int .i64 pn, .string pt, .bool pp]).heap[w.heap.size]? = some (.cells #[.int .i64 d, .bool ag, .int .i64 xu, .int .i64 xs, .int .i64 xh, .int .i64 xa, .int .i64 xn, .string xt, .bool xp, .int .i64 g, .int .i64 yu, .int .i64 ys, .int .i64 yh, .int .i64 ya, .int .i64 yn, .string yt, .bool yp, .bool ea] 54)) := (setRow_other _ _ _ _ (by omega)).trans Q8.out
  have GA9 : Hid ((V9.setRow w8.heap.size #[.int .i64 ts, .int .i64 tb, .int .i64 tl, .int .i64 tm, .int .i64 pu, .int .i64 ps, .int .i64 ph, .int .i64 pa, .int .i64 pn, .string pt, .bool pp]).heap[w4.heap.size]? = some (.cells #[.int .i64 ts, .int .i64 tb, .int .i64 tl, .int .i64 tm, .int .i64 pu, .int .i64 ps, .int .i64 ph, .int .i64 pa, .int .i64 pn, .string pt, .bool pp] 39)) := (setRow_other _ _ _ _ (by omega)).trans GA8.out
  have GB9 : Hid ((V9.setRow w8.heap.size #[.int .i64 ts, .int .i64 tb, .int .i64 tl, .int .i64 tm, .int .i64 pu, .int .i64 ps, .int .i64 ph, .int .i64 pa, .int .i64 pn, .string pt, .bool pp]).heap[w8.heap.size]? = some (.cells #[.int .i64 ts, .int .i64 tb, .int .i64 tl, .int .i64 tm, .int .i64 pu, .int .i64 ps, .int .i64 ph, .int .i64 pa, .int .i64 pn, .string pt, .bool pp] 39)) := setRow_heap _ _ _ _ _ _ GB8.out
  have K9 : Hid (Below w.heap.size w (V9.setRow w8.heap.size #[.int .i64 ts, .int .i64 tb, .int .i64 tl, .int .i64 tm, .int .i64 pu, .int .i64 ps, .int .i64 ph, .int .i64 pa, .int .i64 pn, .string pt, .bool pp])) := below_setRow K8.out (by omega) _
  go_wp2_with (first | (refine wpList_store_row rfl 39 _ _ rfl (w8.heap.size) #[.int .i64 ts, .int .i64 tb, .int .i64 tl, .int .i64 tm, .int .i64 pu, .int .i64 ps, .int .i64 ph, .int .i64 pa, .int .i64 pn, .string pt, .bool pp] rfl rfl 39 _ GB8.out (by kernel_rfl) rfl (by simp [Value.oneCell']) ?_) | (refine wpList_load_row rfl 39 _ rfl (w8.heap.size) rfl 39 _ (0, 0) _ GB9.out Tryz.underlying39 rfl (by kernel_rfl) ?_) | (refine wpList_load_row rfl 39 _ rfl (w4.heap.size) rfl 39 _ (0, 0) _ GA9.out Tryz.underlying39 rfl (by kernel_rfl) ?_))
  clear hV9 Q8 GA8 GB8 K8
  generalize V9.setRow w8.heap.size #[.int .i64 ts, .int .i64 tb, .int .i64 tl, .int .i64 tm, .int .i64 pu, .int .i64 ps, .int .i64 ph, .int .i64 pa, .int .i64 pn, .string pt, .bool pp] = S10 at Q9 GA9 GB9 K9 ⊢
  refine (cE.out _).mono ?_
  rintro e w11 ⟨rfl, hb⟩
  have Q10 := Lib.hid (Tx.blk_on hb Q9.out)
  have GA10 := Lib.hid (Tx.blk_on hb GA9.out)
  have GB10 := Lib.hid (Tx.blk_on hb GB9.out)
  have K10 := Lib.hid (K9.out.trans (hb.mono K9.out.size))
  clear hb Q9 GA9 GB9 K9
  go_wp2
  go_ret
  exact ⟨rfl, K10.out⟩

theorem star : "*errors.errorString" = "*" ++ "errors.errorString" := by decide
theorem rowE (u : TypeId) (h : Tryz.prog.typeName? 3 u = some "*errors.errorString") : u = 247 :=
  typeName_ptr_named (nm := "errors.errorString") (by rw [← star]; kernel_rfl) (by kernel_rfl) (by decide) u (by rw [← star]; exact h)
theorem glob {W : World} (h : laidMetH Tryz.prog Rows.fnExactTokenInRow.laid W) (hsh : W.ShapedOpen Tryz.prog) : Tx.Glob W := by
  rw [MakeChecks.laidMetH_plain _ _ _ (by kernel_rfl)] at h
  have h2 := laidMet.tail (laidMet.tail h)
  have h4 := laidMet.tail (laidMet.tail h2)
  have h5 := laidMet.tail h4
  obtain ⟨a, _, e1, _⟩ := laid_sentinel h4 (g := 2) (by kernel_rfl) (by kernel_rfl) Tryz.underlying155 rowE Tryz.underlying247 Tryz.underlying249 rfl rfl Tryz.underlying9 (by kernel_rfl) (by kernel_rfl)
  obtain ⟨c, _, e2, _⟩ := laid_sentinel h5 (g := 1) (by kernel_rfl) (by kernel_rfl) Tryz.underlying155 rowE Tryz.underlying247 Tryz.underlying249 rfl rfl Tryz.underlying9 (by kernel_rfl) (by kernel_rfl)
  exact ⟨Tx.tab_of h2, ⟨_, _, e2⟩, ⟨_, _, e1⟩, cell_of_shapedOpen_int (t := 3) (zero := #[.int .i64 0]) hsh (by decide +kernel) (by kernel_rfl) rfl (by kernel_rfl) (by kernel_rfl) Tryz.underlying3⟩

theorem own : ownKnob Tryz.prog.godebug = none := by kernel_rfl
theorem laidOut : laidOutB Tryz.prog = true := by kernel_rfl

set_option maxRecDepth 100000 in
theorem lifted (os : Os) (started : os.Started) (H : Type) (enc : TypeId × Value → H) :
    ReturnsInHanded {} Tryz.checked os 4 .any (fun w args => (Rows.fnExactTokenInSpec.pre enc Tryz.prog Tryz.f4 [] false w args ∧ laidMetH Tryz.prog Rows.fnExactTokenInRow.laid w) ∧ sizedMet enc Tryz.prog Tryz.f4 (OpenSpec.ofChange Rows.fnExactTokenInSpec) false w args)
      (Rows.fnExactTokenInSpec.post enc Tryz.prog Tryz.f4 false true false false) := by
  refine Tx.returns_and_shaped (C := Tryz.checked) (X := fun w _ => laidMetH Tryz.prog Rows.fnExactTokenInRow.laid w) (fun _ _ _ hh h => h.of_heap hh) own started (by kernel_rfl) Tryz.func4
    (ChangeSpec.witness_shaped (enc := enc) (C := Tryz.checked) (os := os) (X := fun w _ => laidMetH Tryz.prog Rows.fnExactTokenInRow.laid w) false (World.laidAll Tryz.prog os Rows.fnExactTokenInRow.laid) #[.int .i64 0, .agg #[.int .i64 0, .bool false, .int .i64 0, .int .i64 0, .int .i64 0, .int .i64 0, .int .i64 0, .string ByteArray.empty, .bool false, .int .i64 0, .int .i64 0, .int .i64 0, .int .i64 0, .int .i64 0, .int .i64 0, .string ByteArray.empty, .bool false, .bool false], .int .i64 0] 8 (World.laidAll_os _ _ _) (World.shaped_of_ZipB (by kernel_rfl) (by kernel_rfl)) (by kernel_rfl) (by kernel_rfl) (by kernel_rfl) (by rw [MakeChecks.laidMetH_plain _ _ _ (by kernel_rfl)]; exact laidMet_laidAll _ (by kernel_rfl) (by kernel_rfl))) ?_
  intro W base args ds gs before hval0 hW hL hsh
  have hval : ∀ (j : Nat) t v, Tryz.f4.params[j]? = some t → args[j]? = some v → Value.okWide Tryz.prog W .any base t v := hval0
  have hW' := hW
  obtain ⟨p, q, hA0, hV, rfl, hfz, hnd⟩ := hW
  have hA : DataW.TrodAll enc Tryz.prog W 0 (fun _ => true) true Tryz.f4.params.toList args.toList ds p := hA0
  rw [Tryz.params4] at hA hval
  obtain ⟨v0, vs0, d0, ds0, p0, q0, hargs, rfl, rfl, h0, r0⟩ := trodAll_cons hA
  obtain ⟨v1, vs1, d1, ds1, p1, q1, rfl, rfl, rfl, h1, r1⟩ := trodAll_cons r0
  obtain ⟨v2, vs2, d2, ds2, p2, q2, rfl, rfl, rfl, h2, r2⟩ := trodAll_cons r1
  obtain ⟨rfl, rfl, rfl⟩ := trodAll_nil r2
  obtain rfl : args = #[v0, v1, v2] := by cases args; simp_all
  obtain ⟨rfl, rfl⟩ := trodVars_none hV
  have k0 := h0
  have lt0 : ∀ x ∈ p0, x.block < W.heap.size := by obtain ⟨m, hm⟩ := k0; exact DataW.trod_lt m _ _ _ hm
  have k1 := h1
  have lt1 : ∀ x ∈ p1, x.block < W.heap.size := by obtain ⟨m, hm⟩ := k1; exact DataW.trod_lt m _ _ _ hm
  have k2 := h2
  have lt2 : ∀ x ∈ p2, x.block < W.heap.size := by obtain ⟨m, hm⟩ := k2; exact DataW.trod_lt m _ _ _ hm
  obtain ⟨a0, rfl, rfl, rfl, w0⟩ := open_int Tryz.underlying2 (hval 0 2 v0 rfl rfl) h0
  obtain ⟨b1, rfl, w1⟩ := Tx.open_hel (hval 1 54 v1 rfl rfl) h1
  obtain ⟨a2, rfl, rfl, rfl, w2⟩ := open_int Tryz.underlying2 (hval 2 2 v2 rfl rfl) h2
  clear hA0 hval0
  refine (walk W a0 w0 b1 w1 a2 w2 (glob hL hsh)).mono fun e W' ⟨he, bel⟩ => ?_
  subst he
  exact ⟨_, rfl, _, _, _, [], _, [], hW', trodAll_mk1 (shut_bool Tryz.underlying4 _), (trodAll_cons_mk (Below.trod laidOut (by kernel_rfl) (of_decide_eq_true (by kernel_rfl)) k0 bel lt0) (trodAll_cons_mk (Below.trod laidOut (by kernel_rfl) (of_decide_eq_true (by kernel_rfl)) k1 bel lt1) (trodAll_cons_mk (Below.trod laidOut (by kernel_rfl) (of_decide_eq_true (by kernel_rfl)) k2 bel lt2) trodAll_mk0))), rfl, bel.frame _, fun h => by cases h⟩

theorem over : Rows.fnExactTokenInRow.holds Tryz.pinned (OpenSpec.ofChange Rows.fnExactTokenInSpec) :=
  OpenClaim.holds_of_wide 4 Tryz.f4 rfl rfl rfl rfl rfl rfl rfl ⟨rfl, rfl, rfl, rfl, rfl⟩ rfl rfl rfl rfl rfl (by kernel_rfl) Tryz.func4 (by kernel_rfl)
    (of_decide_eq_true (by kernel_rfl)) (by unfold Func.isWrapper; first | (rw [if_pos (by decide +kernel)]; kernel_rfl) | (rw [if_neg (by decide +kernel)]; exact ⟨rfl, rfl⟩))
    (fun os started H enc _ => lifted os started H enc)

end Go.Proofs.YtoffdlokndngeaaGreatDoor.fnExactTokenIn

namespace Go.Proofs.YtoffdlokndngeaaGreatDoor
theorem fnExactTokenIn_proved : Rows.FnExactTokenInCardSaid :=
  Claim7.holds_tied_plain_at .later [] Rows.fnExactTokenInCard.laidKinds true Rows.fnExactTokenInCard.stood.harness true
    fnExactTokenIn.over (fun _ h => by cases h) (by kernel_rfl) (fun _ h => by cases h) fnExactTokenIn_row_tie rfl ⟨rfl, rfl⟩ (by kernel_rfl) rfl
    (fun f fn hf hfn => by
      obtain rfl : f = 4 := Option.some.inj ((show Tryz.prog.funcNamed Rows.fnExactTokenInRow.func = some 4 by kernel_rfl).symm.trans hf) |>.symm
      obtain rfl : fn = Tryz.f4 := (Option.some.inj (Tryz.func4.symm.trans hfn)).symm
      exact ⟨by kernel_rfl, fun j t ht => by
        rw [Tryz.params4] at ht
        have hm : t ∈ [2, 54, 2] := by simpa using Array.mem_of_getElem? ht
        have hall : ([2, 54, 2].all fun u => !Tryz.prog.wantsStandIn u) = true := by kernel_rfl
        exact (show Tryz.prog.wantsStandIn t = false by simpa using List.all_eq_true.1 hall t hm)⟩)
    (by kernel_rfl)
#print axioms fnExactTokenIn_proved
end Go.Proofs.YtoffdlokndngeaaGreatDoor

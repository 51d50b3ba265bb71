/-
  The law FnExactHears returns true at every seat and box, and they read behind the call as they read before: Hears of the program and of the model answer alike, and what the program answers is new memory. Conditions: those that the card itself names (the listed variables of the library hold what its text lays in them).
-/
import Derived.Test.YtchdmmlkgglmcaaDoorRows
import Derived.WalkKit
import Derived.ProofKit
import Derived.OpenShut
import Derived.ShutString
import Derived.ChangeOld
import Derived.Below
import Derived.SliceStrings
import Derived.Lib.SmallJoins
import Derived.Test.YtchdmmlkgglmcaaDoorCards
import Derived.Test.YtchdmmlkgglmcaaDoorTie
import Derived.LaidMore
import Derived.Stop.Joined
import Derived.SevenTiedAt
import Derived.Test.YtchdmmlkgglmcaaDoorOpen14
import Derived.Test.YtchdmmlkgglmcaaDoorSeat8
import Derived.Test.YtchdmmlkgglmcaaDoorImpl14b
import Derived.Test.YtchdmmlkgglmcaaDoorLaid
namespace Go.Proofs.YtchdmmlkgglmcaaDoor.fnExactHears
open Go.ChangeShapes Go.WideShapes Go.ChangeAt Go.RowKit
open Go.ChangeMaps (open_string shut_string)
set_option linter.unusedVariables false

set_option maxRecDepth 100000 in
set_option maxHeartbeats 32000000 in
theorem walk (w : World) (s : Tx.SeatV) (A : Option Addr) (n cap : Nat) (l : List Tx.WordV) (h : Tx.EltsO w w.heap.size A n l) (hl : n ≤ maxLen) (hz : ∀ t ∈ l, t.t.size ≤ maxLen) (b : Tx.BoxV) (hbx : b.t.size ≤ maxLen) (ht : Tx.Tab w) :
    Calls Tryd.prog 4 #[s.val A n cap, b.val] w fun e w' => e = .returned (.bool true) ∧ Below w.heap.size w w' := by
  have hl' : n ≤ 9223372036854775807 := by have e : (2 : Nat) ^ 63 - 1 = 9223372036854775807 := rfl; rw [← e]; exact hl
  have hz' : ∀ t ∈ l, t.t.size ≤ 9223372036854775807 := fun t ht => by have e : (2 : Nat) ^ 63 - 1 = 9223372036854775807 := rfl; rw [← e]; exact hz t ht
  have hx' : b.t.size ≤ 9223372036854775807 := by have e : (2 : Nat) ^ 63 - 1 = 9223372036854775807 := rfl; rw [← e]; exact hbx
  have E := Lib.hid h
  have HTB := Lib.hid ht
  have hln := h.1
  clear hl h hz hbx ht
  obtain ⟨st, sh, sd, sp, ⟨⟨eu, es, eh, ea⟩, en⟩, ⟨⟨fu, fs, fh, fa⟩, fn⟩⟩ := s
  obtain ⟨⟨xu, xs, xh, xa⟩, xn, xt, xp⟩ := b
  have HV : Hid (Tx.SeatV.val ⟨st, sh, sd, sp, ⟨⟨eu, es, eh, ea⟩, en⟩, ⟨⟨fu, fs, fh, fa⟩, fn⟩⟩ A n cap = .agg #[.int .i64 st, .int .i64 sh, .int .i64 sd, .int .i64 sp, .int .i64 eu, .int .i64 es, .int .i64 eh, .int .i64 ea, .int .i64 en, .int .i64 fu, .int .i64 fs, .int .i64 fh, .int .i64 fa, .int .i64 fn, .slice A n cap]) := rfl
  have HB : Hid (Tx.BoxV.val ⟨⟨xu, xs, xh, xa⟩, xn, xt, xp⟩ = .agg #[.int .i64 xu, .int .i64 xs, .int .i64 xh, .int .i64 xa, .int .i64 xn, .string xt, .bool xp]) := rfl
  rw [HV.out, HB.out]
  dsimp only at hx'
  obtain ⟨W0, hW0⟩ : ∃ W, (w.alloc (.cells #[.int .i64 st, .int .i64 sh, .int .i64 sd, .int .i64 sp, .int .i64 eu, .int .i64 es, .int .i64 eh, .int .i64 ea, .int .i64 en, .int .i64 fu, .int .i64 fs, .int .i64 fh, .int .i64 fa, .int .i64 fn, .slice A n cap] 56)).alloc (.cells #[.int .i64 xu, .int .i64 xs, .int .i64 xh, .int .i64 xa, .int .i64 xn, .string xt, .bool xp] 58) = W := ⟨_, rfl⟩
  have K0 : Hid (Below w.heap.size w W0) := by rw [← hW0]; exact ((Below.refl _ w).alloc (Nat.le_refl _) _).alloc (by simp; try omega) _
  have Q0 : Hid (W0.heap[w.heap.size]? = some (.cells #[.int .i64 st, .int .i64 sh, .int .i64 sd, .int .i64 sp, .int .i64 eu, .int .i64 es, .int .i64 eh, .int .i64 ea, .int .i64 en, .int .i64 fu, .int .i64 fs, .int .i64 fh, .int .i64 fa, .int .i64 fn, .slice A n cap] 56)) := by rw [← hW0]; exact Tx.heap2a w _ _
  have B0 : Hid (W0.heap[w.heap.size + 1]? = some (.cells #[.int .i64 xu, .int .i64 xs, .int .i64 xh, .int .i64 xa, .int .i64 xn, .string xt, .bool xp] 58)) := by rw [← hW0]; exact Tx.heap2b w _ _
  have zW0 : W0.heap.size = w.heap.size + 2 := by rw [← hW0]; simp
  go_enter Tryd.func4, Tryd.ntmps4
  go_wp2_with (refine wpList_load_row rfl 56 _ rfl (w.heap.size) rfl 56 _ (0, 0) _ Q0.out Tryd.underlying56 rfl (by kernel_rfl) ?_)
  clear hW0
  have cz := Tx.szSeat_any ⟨st, sh, sd, sp, ⟨⟨eu, es, eh, ea⟩, en⟩, ⟨⟨fu, fs, fh, fa⟩, fn⟩⟩ A n cap l 1048576 W0 ((E.out.below K0.out).mono K0.out.size) hl' hz' (by omega) (by omega)
  rw [HV.out] at cz
  refine cz.mono ?_
  rintro e w1 ⟨Lf, rfl, hL1, hL2, hb⟩
  have hsz1 := hb.size
  have Q1 := Lib.hid (Tx.blk_on hb Q0.out)
  have B1 := Lib.hid (Tx.blk_on hb B0.out)
  have K1 := Lib.hid (K0.out.trans (hb.mono K0.out.size))
  clear hb cz hl' hz' Q0 B0 K0
  by_cases hL : Lf < 0
  ·
    go_wp2
    go_ret
    exact ⟨rfl, K1.out⟩
  have hn : n ≤ 1048576 := hL2 (by omega)
  clear hL2
  go_wp2_with (refine wpList_load_row rfl 58 _ rfl (w.heap.size + 1) rfl 58 _ (0, 0) _ B1.out Tryd.underlying58 rfl (by kernel_rfl) ?_)
  have cz : Calls Tryd.prog 20 #[.agg #[.int .i64 xu, .int .i64 xs, .int .i64 xh, .int .i64 xa, .int .i64 xn, .string xt, .bool xp], .int .i64 Lf] w1 fun e w' => e = .returned (.int .i64 (Tx.szLeft Lf xt.size)) ∧ Below w1.heap.size w1 w' := Tx.szBox_any ⟨⟨xu, xs, xh, xa⟩, xn, xt, xp⟩ hx' Lf (by omega) (by omega) _
  refine (cz).mono ?_
  rintro e w2 ⟨rfl, hb⟩
  clear cz hx'
  have hsz2 := hb.size
  have Q2 := Lib.hid (Tx.blk_on hb Q1.out)
  have B2 := Lib.hid (Tx.blk_on hb B1.out)
  have K2 := Lib.hid (K1.out.trans (hb.mono K1.out.size))
  clear hb Q1 B1 K1
  obtain ⟨lg, hlg⟩ : ∃ lg, Tx.szLeft Lf xt.size = lg := ⟨_, rfl⟩
  rw [hlg]
  clear hlg hL1 hL
  by_cases hneg2 : lg < 0
  ·
    go_wp2
    go_ret
    exact ⟨rfl, K2.out⟩
  obtain ⟨out, hout⟩ : ∃ o, Tx.hearL ⟨st, sh, sd, sp, ⟨⟨eu, es, eh, ea⟩, en⟩, ⟨⟨fu, fs, fh, fa⟩, fn⟩⟩ l ⟨⟨xu, xs, xh, xa⟩, xn, xt, xp⟩ = o := ⟨_, rfl⟩
  have hol : out.length ≤ 1048576 := by rw [← hout]; exact Tx.hearL_length _ _ _ (by omega)
  obtain ⟨⟨rst, rsh, rsd, rsp, ⟨⟨reu, res, reh, rea⟩, ren⟩, ⟨⟨rfu, rfs, rfh, rfa⟩, rfn⟩⟩, hr⟩ : ∃ o, Tx.hearS ⟨st, sh, sd, sp, ⟨⟨eu, es, eh, ea⟩, en⟩, ⟨⟨fu, fs, fh, fa⟩, fn⟩⟩ n ⟨⟨xu, xs, xh, xa⟩, xn, xt, xp⟩ = o := ⟨_, rfl⟩
  obtain ⟨y, hy⟩ : ∃ o, Tx.hearC ⟨st, sh, sd, sp, ⟨⟨eu, es, eh, ea⟩, en⟩, ⟨⟨fu, fs, fh, fa⟩, fn⟩⟩ n ⟨⟨xu, xs, xh, xa⟩, xn, xt, xp⟩ = o := ⟨_, rfl⟩
  have hyy : (y != y) = false := by simp
  have cT : Hid (∀ (w' : World), Tx.EltsO w' w'.heap.size A n l → Calls Tryd.prog 22 #[.agg #[.int .i64 st, .int .i64 sh, .int .i64 sd, .int .i64 sp, .int .i64 eu, .int .i64 es, .int .i64 eh, .int .i64 ea, .int .i64 en, .int .i64 fu, .int .i64 fs, .int .i64 fh, .int .i64 fa, .int .i64 fn, .slice A n cap]] w' fun e w'' => ∃ g, e = .returned (.agg #[.int .i64 st, .int .i64 sh, .int .i64 sd, .int .i64 sp, .int .i64 eu, .int .i64 es, .int .i64 eh, .int .i64 ea, .int .i64 en, .int .i64 fu, .int .i64 fs, .int .i64 fh, .int .i64 fa, .int .i64 fn, .slice (some ⟨g, 0, none⟩) n n]) ∧ w'.heap.size ≤ g ∧ Tx.CopyE w'' g n l ∧ Below w'.heap.size w' w'') := fun w' hE => Tx.toSeat_any ⟨st, sh, sd, sp, ⟨⟨eu, es, eh, ea⟩, en⟩, ⟨⟨fu, fs, fh, fa⟩, fn⟩⟩ A n cap l w' hE hn
  have cB : Hid (∀ (w' : World), Calls Tryd.prog 23 #[.agg #[.int .i64 xu, .int .i64 xs, .int .i64 xh, .int .i64 xa, .int .i64 xn, .string xt, .bool xp]] w' fun e w'' => e = .returned (.agg #[.int .i64 xu, .int .i64 xs, .int .i64 xh, .int .i64 xa, .int .i64 xn, .string xt, .bool xp]) ∧ Below w'.heap.size w' w'') := fun w' => Tx.toBox_any ⟨⟨xu, xs, xh, xa⟩, xn, xt, xp⟩ w'
  have cS : Hid (∀ (w' : World) (g : Nat), Tx.CopyE w' g n l → Calls Tryd.prog 21 #[.agg #[.int .i64 st, .int .i64 sh, .int .i64 sd, .int .i64 sp, .int .i64 eu, .int .i64 es, .int .i64 eh, .int .i64 ea, .int .i64 en, .int .i64 fu, .int .i64 fs, .int .i64 fh, .int .i64 fa, .int .i64 fn, .slice (some ⟨g, 0, none⟩) n n], .agg #[.int .i64 xu, .int .i64 xs, .int .i64 xh, .int .i64 xa, .int .i64 xn, .string xt, .bool xp]] w' fun e w'' => ∃ (B : Option Addr) (c : Nat), e = .returned (.tuple #[.agg #[.int .i64 rst, .int .i64 rsh, .int .i64 rsd, .int .i64 rsp, .int .i64 reu, .int .i64 res, .int .i64 reh, .int .i64 rea, .int .i64 ren, .int .i64 rfu, .int .i64 rfs, .int .i64 rfh, .int .i64 rfa, .int .i64 rfn, .slice B out.length c], .int .i64 y]) ∧ Tx.OutE w'' w'.heap.size 69 B out.length c out ∧ Below w'.heap.size w' w'') := fun w' g hE => by
    have h1 := Tx.Hears_spec ⟨st, sh, sd, sp, ⟨⟨eu, es, eh, ea⟩, en⟩, ⟨⟨fu, fs, fh, fa⟩, fn⟩⟩ (some ⟨g, 0, none⟩) n n l ⟨⟨xu, xs, xh, xa⟩, xn, xt, xp⟩ w' (hE.elts hln) (fun e => by cases e) hn
    rw [hr, hy, hout] at h1
    exact h1.mono fun e w'' ⟨B, m, c, he, ho, hb⟩ => by
      have hm := ho.out.len
      subst hm
      exact ⟨B, c, he, ho.out, hb⟩
  have cI : Hid (∀ (w' : World) (g : Nat), Tx.CopyE w' g n l → Tx.Tab w' → Calls Tryd.prog 15 #[.agg #[.int .i64 st, .int .i64 sh, .int .i64 sd, .int .i64 sp, .int .i64 eu, .int .i64 es, .int .i64 eh, .int .i64 ea, .int .i64 en, .int .i64 fu, .int .i64 fs, .int .i64 fh, .int .i64 fa, .int .i64 fn, .slice (some ⟨g, 0, none⟩) n n], .agg #[.int .i64 xu, .int .i64 xs, .int .i64 xh, .int .i64 xa, .int .i64 xn, .string xt, .bool xp]] w' fun e w'' => ∃ (B : Option Addr) (c : Nat), e = .returned (.tuple #[.agg #[.int .i64 rst, .int .i64 rsh, .int .i64 rsd, .int .i64 rsp, .int .i64 reu, .int .i64 res, .int .i64 reh, .int .i64 rea, .int .i64 ren, .int .i64 rfu, .int .i64 rfs, .int .i64 rfh, .int .i64 rfa, .int .i64 rfn, .slice B out.length c], .int .i64 y]) ∧ Tx.OutE w'' w'.heap.size 69 B out.length c out ∧ Below w'.heap.size w' w'') := fun w' g hE hT => by
    have h1 := Tx.Hears_impl ⟨st, sh, sd, sp, ⟨⟨eu, es, eh, ea⟩, en⟩, ⟨⟨fu, fs, fh, fa⟩, fn⟩⟩ (some ⟨g, 0, none⟩) n n l ⟨⟨xu, xs, xh, xa⟩, xn, xt, xp⟩ w' (hE.elts hln) (fun e => by cases e) hn hT
    rw [hr, hy, hout] at h1
    exact h1.mono fun e w'' ⟨B, m, c, he, ho, hb⟩ => by
      have hm := ho.out.len
      subst hm
      exact ⟨B, c, he, ho.out, hb⟩
  clear hr hy hout HV HB
  go_wp2
  refine Tx.wp_region_own (W := w2) [] (fun _ => True) Tx.stays_true trivial [0, 1, 0, 1, 1, 0, 0, 0, 2, 3, 0] (by kernel_rfl) (by kernel_rfl) (by kernel_rfl) ?_
  have rQ : Hid (∀ q : Tx.In (Tx.plainEnv w2 []), q.w.heap[w.heap.size]? = some (.cells #[.int .i64 st, .int .i64 sh, .int .i64 sd, .int .i64 sp, .int .i64 eu, .int .i64 es, .int .i64 eh, .int .i64 ea, .int .i64 en, .int .i64 fu, .int .i64 fs, .int .i64 fh, .int .i64 fa, .int .i64 fn, .slice A n cap] 56)) := fun q => q.block Q2.out (by simp)
  have rB : Hid (∀ q : Tx.In (Tx.plainEnv w2 []), q.w.heap[w.heap.size + 1]? = some (.cells #[.int .i64 xu, .int .i64 xs, .int .i64 xh, .int .i64 xa, .int .i64 xn, .string xt, .bool xp] 58)) := fun q => q.block B2.out (by simp)
  refine Tx.wpO_load_row rfl 56 _ rfl (w.heap.size) rfl 56 _ (0, 0) _ rQ.out Tryd.underlying56 rfl (by kernel_rfl) ?_
  simp only [Act.put, List.setIfInBounds_toArray, List.set_cons_succ, List.set_cons_zero]
  refine Tx.wpO_callx (f := 22) (args := #[.agg #[.int .i64 st, .int .i64 sh, .int .i64 sd, .int .i64 sp, .int .i64 eu, .int .i64 es, .int .i64 eh, .int .i64 ea, .int .i64 en, .int .i64 fu, .int .i64 fs, .int .i64 fh, .int .i64 fa, .int .i64 fn, .slice A n cap]]) (α := Nat) (fun g => .agg #[.int .i64 st, .int .i64 sh, .int .i64 sd, .int .i64 sp, .int .i64 eu, .int .i64 es, .int .i64 eh, .int .i64 ea, .int .i64 en, .int .i64 fu, .int .i64 fs, .int .i64 fh, .int .i64 fa, .int .i64 fn, .slice (some ⟨g, 0, none⟩) n n]) (fun g => [g]) (fun g w' => Tx.CopyE w' g n l) rfl (fun w' => by simp [go_sem]) (fun g w1 w2 hw h b => h.on b) (fun G => ?_) (fun w' hw hF => ?_) (fun x1 hgy => ?_)
  · obtain ⟨g, hg, hn'⟩ := Tx.fresh_above w2.heap.size G
    exact ⟨g, fun k hk => by simp at hk; subst hk; exact ⟨hg, hn'⟩⟩
  · have kb := Tx.kept_below hw
    have kk := kb.size
    exact (Tx.toSeat_any ⟨st, sh, sd, sp, ⟨⟨eu, es, eh, ea⟩, en⟩, ⟨⟨fu, fs, fh, fa⟩, fn⟩⟩ A n cap l w' ((E.out.below (K2.out.trans (kb.mono K2.out.size))).mono (Nat.le_trans K2.out.size kb.size)) hn).mono fun e w'' ⟨g, he, h1, m, b1⟩ => ⟨g, he, m, b1, fun k hk => by simp at hk; subst hk; exact ⟨by omega, m.lies.1⟩⟩
  simp only [Act.put, List.setIfInBounds_toArray, List.set_cons_succ, List.set_cons_zero]
  refine Tx.wpO_load_row rfl 58 _ rfl (w.heap.size + 1) rfl 58 _ (0, 0) _ rB.out Tryd.underlying58 rfl (by kernel_rfl) ?_
  simp only [Act.put, List.setIfInBounds_toArray, List.set_cons_succ, List.set_cons_zero]
  refine Tx.wpO_call (f := 23) (args := #[.agg #[.int .i64 xu, .int .i64 xs, .int .i64 xh, .int .i64 xa, .int .i64 xn, .string xt, .bool xp]]) (.agg #[.int .i64 xu, .int .i64 xs, .int .i64 xh, .int .i64 xa, .int .i64 xn, .string xt, .bool xp]) rfl (fun w' => by simp [go_sem]) (fun w' hC _ => cB.out _) ?_
  simp only [Act.put, List.setIfInBounds_toArray, List.set_cons_succ, List.set_cons_zero]
  refine Tx.wpO_callx (f := 21) (args := #[.agg #[.int .i64 st, .int .i64 sh, .int .i64 sd, .int .i64 sp, .int .i64 eu, .int .i64 es, .int .i64 eh, .int .i64 ea, .int .i64 en, .int .i64 fu, .int .i64 fs, .int .i64 fh, .int .i64 fa, .int .i64 fn, .slice (some ⟨x1, 0, none⟩) n n], .agg #[.int .i64 xu, .int .i64 xs, .int .i64 xh, .int .i64 xa, .int .i64 xn, .string xt, .bool xp]]) (α := Option Addr × Nat) (fun z => .tuple #[.agg #[.int .i64 rst, .int .i64 rsh, .int .i64 rsd, .int .i64 rsp, .int .i64 reu, .int .i64 res, .int .i64 reh, .int .i64 rea, .int .i64 ren, .int .i64 rfu, .int .i64 rfs, .int .i64 rfh, .int .i64 rfa, .int .i64 rfn, .slice z.1 out.length z.2], .int .i64 y]) (fun z => (Tx.blkA z.1).toList) (fun z w' => Tx.OutE w' w2.heap.size 69 z.1 out.length z.2 out) rfl (fun w' => by simp [go_sem]) (fun z w1 w2 hw h b => h.on b) (fun G => ⟨(none, 0), fun k hk => by cases hk⟩) (fun w' hw hF => ?_) (fun z hz => ?_)
  · exact (cS.out w' x1 hF.2).mono fun e w'' ⟨B, c, he, m, b1⟩ => ⟨(B, c), he, m.mono (Tx.kept_below hw).size, b1, fun k hk => m.lt (by simpa using hk)⟩
  obtain ⟨Bp, cp⟩ := z
  dsimp only
  simp only [Act.put, List.setIfInBounds_toArray, List.set_cons_succ, List.set_cons_zero]
  refine Tx.wpO_quiet 3 rfl (by kernel_rfl) ?_
  simp only [List.take, List.drop]
  repeat (go_big_quiet_step (fail))
  refine wpQuiet_nil ?_
  refine Tx.wpO_alloc (.cells #[.int .i64 0, .int .i64 0, .int .i64 0, .int .i64 0, .int .i64 0, .int .i64 0, .int .i64 0, .int .i64 0, .int .i64 0, .int .i64 0, .int .i64 0, .int .i64 0, .int .i64 0, .int .i64 0, .slice none 0 0] 32) rfl (fun w' => by simp [go_sem]) fun gGW mg hng => ?_
  have hgGW : w2.heap.size ≤ gGW := mg
  have hneP : ∀ k, Tx.blkA Bp = some k → k ≠ gGW := fun k e e2 => hng (by subst e2; simp [e])
  simp only [Act.put, List.setIfInBounds_toArray, List.set_cons_succ, List.set_cons_zero]
  refine Tx.wpO_store (g := gGW) (t := 32) (old := #[.int .i64 0, .int .i64 0, .int .i64 0, .int .i64 0, .int .i64 0, .int .i64 0, .int .i64 0, .int .i64 0, .int .i64 0, .int .i64 0, .int .i64 0, .int .i64 0, .int .i64 0, .int .i64 0, .slice none 0 0]) (fun w' => Tx.OutE w' w2.heap.size 69 Bp out.length cp out) #[.int .i64 rst, .int .i64 rsh, .int .i64 rsd, .int .i64 rsp, .int .i64 reu, .int .i64 res, .int .i64 reh, .int .i64 rea, .int .i64 ren, .int .i64 rfu, .int .i64 rfs, .int .i64 rfh, .int .i64 rfa, .int .i64 rfn, .slice Bp out.length cp] rfl rfl rfl rfl (Tx.Env.own _ mg) (by kernel_rfl) rfl rfl (fun w' h => ⟨h.1.2, h.2⟩) (fun w1 w2 hw h b => h.on b) (fun w1 w2 hw h => h.heap (fun k e => hw k (h.lt e).2 (hneP k e))) ?_
  simp only [Act.put]
  refine Tx.wpO_quiet 1 rfl (by kernel_rfl) ?_
  simp only [List.take, List.drop]
  repeat (go_big_quiet_step (fail))
  refine wpQuiet_nil ?_
  refine Tx.wpO_nil ?_
  rintro w3 hb' ⟨hM, hG⟩
  have hb := Tx.kept_below hb'
  have hlP : ∀ k, Tx.blkA Bp = some k → w2.heap.size ≤ k ∧ k < w3.heap.size := fun k e => hM.lt e
  have ltGW := Tx.blk_in hG
  have hsz3 := hb.size
  have Q3 := Lib.hid (Tx.blk_on hb Q2.out)
  have B3 := Lib.hid (Tx.blk_on hb B2.out)
  have K3 := Lib.hid (K2.out.trans (hb.mono K2.out.size))
  clear hb hb' rQ rB Q2 B2 K2
  have GW3 := Lib.hid hG
  have P3 := Lib.hid hM
  clear hG hM
  clear hgy
  go_wp2_with (refine wpList_load_row rfl 56 _ rfl (w.heap.size) rfl 56 _ (0, 0) _ Q3.out Tryd.underlying56 rfl (by kernel_rfl) ?_)
  refine (cT.out _ ((E.out.below K3.out).mono K3.out.size)).mono ?_
  rintro e w4 ⟨gx, rfl, hgx, hcx, hb⟩
  have hsz4 := hb.size
  have Q4 := Lib.hid (Tx.blk_on hb Q3.out)
  have B4 := Lib.hid (Tx.blk_on hb B3.out)
  have GW4 := Lib.hid (Tx.blk_on hb GW3.out)
  have P4 := Lib.hid (P3.out.on hb)
  have K4 := Lib.hid (K3.out.trans (hb.mono K3.out.size))
  clear hb Q3 B3 GW3 K3 P3
  have Z4 := Lib.hid hcx
  have hgxl := hcx.lies.1
  clear hcx
  obtain ⟨V5, hV5⟩ : ∃ V, w4.alloc (.cells #[.int .i64 0, .int .i64 0, .int .i64 0, .int .i64 0, .int .i64 0, .int .i64 0, .int .i64 0, .int .i64 0, .int .i64 0, .int .i64 0, .int .i64 0, .int .i64 0, .int .i64 0, .int .i64 0, .slice none 0 0] 32) = V := ⟨_, rfl⟩
  have ltV5Q : w.heap.size < w4.heap.size := Tx.blk_in Q4.out
  have ltV5B : w.heap.size + 1 < w4.heap.size := Tx.blk_in B4.out
  have ltV5GW : gGW < w4.heap.size := Tx.blk_in GW4.out
  have Q5 : Hid (V5.heap[w.heap.size]? = some (.cells #[.int .i64 st, .int .i64 sh, .int .i64 sd, .int .i64 sp, .int .i64 eu, .int .i64 es, .int .i64 eh, .int .i64 ea, .int .i64 en, .int .i64 fu, .int .i64 fs, .int .i64 fh, .int .i64 fa, .int .i64 fn, .slice A n cap] 56)) := by rw [← hV5]; exact Tx.alloc_blk Q4.out
  have B5 : Hid (V5.heap[w.heap.size + 1]? = some (.cells #[.int .i64 xu, .int .i64 xs, .int .i64 xh, .int .i64 xa, .int .i64 xn, .string xt, .bool xp] 58)) := by rw [← hV5]; exact Tx.alloc_blk B4.out
  have GW5 : Hid (V5.heap[gGW]? = some (.cells #[.int .i64 rst, .int .i64 rsh, .int .i64 rsd, .int .i64 rsp, .int .i64 reu, .int .i64 res, .int .i64 reh, .int .i64 rea, .int .i64 ren, .int .i64 rfu, .int .i64 rfs, .int .i64 rfh, .int .i64 rfa, .int .i64 rfn, .slice Bp out.length cp] 32)) := by rw [← hV5]; exact Tx.alloc_blk GW4.out
  have hb : Below w4.heap.size w4 V5 := by rw [← hV5]; exact (Below.refl _ w4).alloc (Nat.le_refl _) _
  have P5 := Lib.hid (P4.out.on hb)
  have Z5 := Lib.hid (Z4.out.on hb)
  have K5 := Lib.hid (K4.out.trans (hb.mono K4.out.size))
  have X5 : Hid (V5.heap[w4.heap.size]? = some (.cells #[.int .i64 0, .int .i64 0, .int .i64 0, .int .i64 0, .int .i64 0, .int .i64 0, .int .i64 0, .int .i64 0, .int .i64 0, .int .i64 0, .int .i64 0, .int .i64 0, .int .i64 0, .int .i64 0, .slice none 0 0] 32)) := by rw [← hV5]; exact Tx.heap1 w4 _
  have lbV5 : w.heap.size ≤ w4.heap.size := K4.out.size
  clear hb Q4 B4 GW4 K4 P4 Z4
  have zaV5 : V5.heap.size = w4.heap.size + 1 := by rw [← hV5]; simp
  have Q6 : Hid ((V5.setRow w4.heap.size #[.int .i64 st, .int .i64 sh, .int .i64 sd, .int .i64 sp, .int .i64 eu, .int .i64 es, .int .i64 eh, .int .i64 ea, .int .i64 en, .int .i64 fu, .int .i64 fs, .int .i64 fh, .int .i64 fa, .int .i64 fn, .slice (some ⟨gx, 0, none⟩) n n]).heap[w.heap.size]? = some (.cells #[.int .i64 st, .int .i64 sh, .int .i64 sd, .int .i64 sp, .int .i64 eu, .int .i64 es, .int .i64 eh, .int .i64 ea, .int .i64 en, .int .i64 fu, .int .i64 fs, .int .i64 fh, .int .i64 fa, .int .i64 fn, .slice A n cap] 56)) := (setRow_other _ _ _ _ (by omega)).trans Q5.out
  have B6 : Hid ((V5.setRow w4.heap.size #[.int .i64 st, .int .i64 sh, .int .i64 sd, .int .i64 sp, .int .i64 eu, .int .i64 es, .int .i64 eh, .int .i64 ea, .int .i64 en, .int .i64 fu, .int .i64 fs, .int .i64 fh, .int .i64 fa, .int .i64 fn, .slice (some ⟨gx, 0, none⟩) n n]).heap[w.heap.size + 1]? = some (.cells #[.int .i64 xu, .int .i64 xs, .int .i64 xh, .int .i64 xa, .int .i64 xn, .string xt, .bool xp] 58)) := (setRow_other _ _ _ _ (by omega)).trans B5.out
  have GW6 : Hid ((V5.setRow w4.heap.size #[.int .i64 st, .int .i64 sh, .int .i64 sd, .int .i64 sp, .int .i64 eu, .int .i64 es, .int .i64 eh, .int .i64 ea, .int .i64 en, .int .i64 fu, .int .i64 fs, .int .i64 fh, .int .i64 fa, .int .i64 fn, .slice (some ⟨gx, 0, none⟩) n n]).heap[gGW]? = some (.cells #[.int .i64 rst, .int .i64 rsh, .int .i64 rsd, .int .i64 rsp, .int .i64 reu, .int .i64 res, .int .i64 reh, .int .i64 rea, .int .i64 ren, .int .i64 rfu, .int .i64 rfs, .int .i64 rfh, .int .i64 rfa, .int .i64 rfn, .slice Bp out.length cp] 32)) := (setRow_other _ _ _ _ (by omega)).trans GW5.out
  have X6 : Hid ((V5.setRow w4.heap.size #[.int .i64 st, .int .i64 sh, .int .i64 sd, .int .i64 sp, .int .i64 eu, .int .i64 es, .int .i64 eh, .int .i64 ea, .int .i64 en, .int .i64 fu, .int .i64 fs, .int .i64 fh, .int .i64 fa, .int .i64 fn, .slice (some ⟨gx, 0, none⟩) n n]).heap[w4.heap.size]? = some (.cells #[.int .i64 st, .int .i64 sh, .int .i64 sd, .int .i64 sp, .int .i64 eu, .int .i64 es, .int .i64 eh, .int .i64 ea, .int .i64 en, .int .i64 fu, .int .i64 fs, .int .i64 fh, .int .i64 fa, .int .i64 fn, .slice (some ⟨gx, 0, none⟩) n n] 32)) := setRow_heap _ _ _ _ _ _ X5.out
  have K6 : Hid (Below w.heap.size w (V5.setRow w4.heap.size #[.int .i64 st, .int .i64 sh, .int .i64 sd, .int .i64 sp, .int .i64 eu, .int .i64 es, .int .i64 eh, .int .i64 ea, .int .i64 en, .int .i64 fu, .int .i64 fs, .int .i64 fh, .int .i64 fa, .int .i64 fn, .slice (some ⟨gx, 0, none⟩) n n])) := below_setRow K5.out (by omega) _
  have P6 : Hid (Tx.OutE (V5.setRow w4.heap.size #[.int .i64 st, .int .i64 sh, .int .i64 sd, .int .i64 sp, .int .i64 eu, .int .i64 es, .int .i64 eh, .int .i64 ea, .int .i64 en, .int .i64 fu, .int .i64 fs, .int .i64 fh, .int .i64 fa, .int .i64 fn, .slice (some ⟨gx, 0, none⟩) n n]) w2.heap.size 69 Bp out.length cp out) := P5.out.heap (fun k e => setRow_other _ _ _ _ (by have h1 := hlP k e; omega))
  have Z6 : Hid (Tx.CopyE (V5.setRow w4.heap.size #[.int .i64 st, .int .i64 sh, .int .i64 sd, .int .i64 sp, .int .i64 eu, .int .i64 es, .int .i64 eh, .int .i64 ea, .int .i64 en, .int .i64 fu, .int .i64 fs, .int .i64 fh, .int .i64 fa, .int .i64 fn, .slice (some ⟨gx, 0, none⟩) n n]) gx n l) := Z5.out.heap (setRow_other _ _ _ _ (show gx ≠ w4.heap.size by omega)) (Nat.le_of_eq (size_setRow _ _ _).symm)
  clear P5 Z5
  have zz6 := size_setRow V5 (w4.heap.size) #[.int .i64 st, .int .i64 sh, .int .i64 sd, .int .i64 sp, .int .i64 eu, .int .i64 es, .int .i64 eh, .int .i64 ea, .int .i64 en, .int .i64 fu, .int .i64 fs, .int .i64 fh, .int .i64 fa, .int .i64 fn, .slice (some ⟨gx, 0, none⟩) n n]
  go_wp2_with (refine wpList_store_row rfl 32 _ _ rfl (w4.heap.size) #[.int .i64 st, .int .i64 sh, .int .i64 sd, .int .i64 sp, .int .i64 eu, .int .i64 es, .int .i64 eh, .int .i64 ea, .int .i64 en, .int .i64 fu, .int .i64 fs, .int .i64 fh, .int .i64 fa, .int .i64 fn, .slice (some ⟨gx, 0, none⟩) n n] rfl rfl 32 _ X5.out (by kernel_rfl) rfl (by simp [Value.oneCell']) ?_)
  clear hV5 Q5 B5 GW5 X5 K5
  generalize V5.setRow w4.heap.size #[.int .i64 st, .int .i64 sh, .int .i64 sd, .int .i64 sp, .int .i64 eu, .int .i64 es, .int .i64 eh, .int .i64 ea, .int .i64 en, .int .i64 fu, .int .i64 fs, .int .i64 fh, .int .i64 fa, .int .i64 fn, .slice (some ⟨gx, 0, none⟩) n n] = S6 at Q6 B6 GW6 X6 P6 Z6 K6 zz6 ⊢
  refine Tx.wp_region_own (W := S6) [] (fun _ => True) Tx.stays_true trivial [0, 0, 1, 1, 0, 0, 0, 2, 3, 0] (by kernel_rfl) (by kernel_rfl) (by kernel_rfl) ?_
  have rX : Hid (∀ q : Tx.In (Tx.plainEnv S6 []), q.w.heap[w4.heap.size]? = some (.cells #[.int .i64 st, .int .i64 sh, .int .i64 sd, .int .i64 sp, .int .i64 eu, .int .i64 es, .int .i64 eh, .int .i64 ea, .int .i64 en, .int .i64 fu, .int .i64 fs, .int .i64 fh, .int .i64 fa, .int .i64 fn, .slice (some ⟨gx, 0, none⟩) n n] 32)) := fun q => q.block X6.out (by simp)
  have rB : Hid (∀ q : Tx.In (Tx.plainEnv S6 []), q.w.heap[w.heap.size + 1]? = some (.cells #[.int .i64 xu, .int .i64 xs, .int .i64 xh, .int .i64 xa, .int .i64 xn, .string xt, .bool xp] 58)) := fun q => q.block B6.out (by simp)
  refine Tx.wpO_load_row rfl 32 _ rfl (w4.heap.size) rfl 32 _ (0, 0) _ rX.out Tryd.underlying32 rfl (by kernel_rfl) ?_
  simp only [Act.put, List.setIfInBounds_toArray, List.set_cons_succ, List.set_cons_zero]
  refine Tx.wpO_load_row rfl 58 _ rfl (w.heap.size + 1) rfl 58 _ (0, 0) _ rB.out Tryd.underlying58 rfl (by kernel_rfl) ?_
  simp only [Act.put, List.setIfInBounds_toArray, List.set_cons_succ, List.set_cons_zero]
  refine Tx.wpO_call (f := 23) (args := #[.agg #[.int .i64 xu, .int .i64 xs, .int .i64 xh, .int .i64 xa, .int .i64 xn, .string xt, .bool xp]]) (.agg #[.int .i64 xu, .int .i64 xs, .int .i64 xh, .int .i64 xa, .int .i64 xn, .string xt, .bool xp]) rfl (fun w' => by simp [go_sem]) (fun w' hC _ => cB.out _) ?_
  simp only [Act.put, List.setIfInBounds_toArray, List.set_cons_succ, List.set_cons_zero]
  refine Tx.wpO_callx (f := 15) (args := #[.agg #[.int .i64 st, .int .i64 sh, .int .i64 sd, .int .i64 sp, .int .i64 eu, .int .i64 es, .int .i64 eh, .int .i64 ea, .int .i64 en, .int .i64 fu, .int .i64 fs, .int .i64 fh, .int .i64 fa, .int .i64 fn, .slice (some ⟨gx, 0, none⟩) n n], .agg #[.int .i64 xu, .int .i64 xs, .int .i64 xh, .int .i64 xa, .int .i64 xn, .string xt, .bool xp]]) (α := Option Addr × Nat) (fun z => .tuple #[.agg #[.int .i64 rst, .int .i64 rsh, .int .i64 rsd, .int .i64 rsp, .int .i64 reu, .int .i64 res, .int .i64 reh, .int .i64 rea, .int .i64 ren, .int .i64 rfu, .int .i64 rfs, .int .i64 rfh, .int .i64 rfa, .int .i64 rfn, .slice z.1 out.length z.2], .int .i64 y]) (fun z => (Tx.blkA z.1).toList) (fun z w' => Tx.OutE w' S6.heap.size 69 z.1 out.length z.2 out) rfl (fun w' => by simp [go_sem]) (fun z w1 w2 hw h b => h.on b) (fun G => ⟨(none, 0), fun k hk => by cases hk⟩) (fun w' hw hF => ?_) (fun z hz => ?_)
  · exact (cI.out w' gx (Z6.out.on (Tx.kept_below hw)) (HTB.out.on (K6.out.trans ((Tx.kept_below hw).mono K6.out.size)))).mono fun e w'' ⟨B, c, he, m, b1⟩ => ⟨(B, c), he, m.mono (Tx.kept_below hw).size, b1, fun k hk => m.lt (by simpa using hk)⟩
  obtain ⟨Bo, co⟩ := z
  dsimp only
  simp only [Act.put, List.setIfInBounds_toArray, List.set_cons_succ, List.set_cons_zero]
  refine Tx.wpO_quiet 3 rfl (by kernel_rfl) ?_
  simp only [List.take, List.drop]
  repeat (go_big_quiet_step (fail))
  refine wpQuiet_nil ?_
  refine Tx.wpO_alloc (.cells #[.int .i64 0, .int .i64 0, .int .i64 0, .int .i64 0, .int .i64 0, .int .i64 0, .int .i64 0, .int .i64 0, .int .i64 0, .int .i64 0, .int .i64 0, .int .i64 0, .int .i64 0, .int .i64 0, .slice none 0 0] 32) rfl (fun w' => by simp [go_sem]) fun gGG mg hng => ?_
  have hgGG : S6.heap.size ≤ gGG := mg
  have hneO : ∀ k, Tx.blkA Bo = some k → k ≠ gGG := fun k e e2 => hng (by subst e2; simp [e])
  simp only [Act.put, List.setIfInBounds_toArray, List.set_cons_succ, List.set_cons_zero]
  refine Tx.wpO_store (g := gGG) (t := 32) (old := #[.int .i64 0, .int .i64 0, .int .i64 0, .int .i64 0, .int .i64 0, .int .i64 0, .int .i64 0, .int .i64 0, .int .i64 0, .int .i64 0, .int .i64 0, .int .i64 0, .int .i64 0, .int .i64 0, .slice none 0 0]) (fun w' => Tx.OutE w' S6.heap.size 69 Bo out.length co out) #[.int .i64 rst, .int .i64 rsh, .int .i64 rsd, .int .i64 rsp, .int .i64 reu, .int .i64 res, .int .i64 reh, .int .i64 rea, .int .i64 ren, .int .i64 rfu, .int .i64 rfs, .int .i64 rfh, .int .i64 rfa, .int .i64 rfn, .slice Bo out.length co] rfl rfl rfl rfl (Tx.Env.own _ mg) (by kernel_rfl) rfl rfl (fun w' h => ⟨h.1.2, h.2⟩) (fun w1 w2 hw h b => h.on b) (fun w1 w2 hw h => h.heap (fun k e => hw k (h.lt e).2 (hneO k e))) ?_
  simp only [Act.put]
  refine Tx.wpO_quiet 1 rfl (by kernel_rfl) ?_
  simp only [List.take, List.drop]
  repeat (go_big_quiet_step (fail))
  refine wpQuiet_nil ?_
  refine Tx.wpO_nil ?_
  rintro w7 hb' ⟨hM, hG⟩
  have hb := Tx.kept_below hb'
  have hlO : ∀ k, Tx.blkA Bo = some k → S6.heap.size ≤ k ∧ k < w7.heap.size := fun k e => hM.lt e
  have ltGG := Tx.blk_in hG
  have hsz5 := hb.size
  have Q7 := Lib.hid (Tx.blk_on hb Q6.out)
  have B7 := Lib.hid (Tx.blk_on hb B6.out)
  have GW7 := Lib.hid (Tx.blk_on hb GW6.out)
  have X7 := Lib.hid (Tx.blk_on hb X6.out)
  have P7 := Lib.hid (P6.out.on hb)
  have Z7 := Lib.hid (Z6.out.on hb)
  have K7 := Lib.hid (K6.out.trans (hb.mono K6.out.size))
  clear hb hb' rX rB Q6 B6 GW6 X6 K6 P6 Z6
  have GG7 := Lib.hid hG
  have O7 := Lib.hid hM
  clear hG hM
  go_wp2_with (first | (refine wpList_load_row rfl 32 _ rfl (gGG) rfl 32 _ (0, 0) _ GG7.out Tryd.underlying32 rfl (by kernel_rfl) ?_) | (refine wpList_load_row rfl 32 _ rfl (gGW) rfl 32 _ (0, 0) _ GW7.out Tryd.underlying32 rfl (by kernel_rfl) ?_))
  refine (Tx.eqSeat_same ⟨rst, rsh, rsd, rsp, ⟨⟨reu, res, reh, rea⟩, ren⟩, ⟨⟨rfu, rfs, rfh, rfa⟩, rfn⟩⟩ Bo Bp out.length co cp out _ O7.out.elts P7.out.elts hol).mono ?_
  rintro e w8 ⟨rfl, hb⟩
  have hsz6 := hb.size
  have Q8 := Lib.hid (Tx.blk_on hb Q7.out)
  have B8 := Lib.hid (Tx.blk_on hb B7.out)
  have GW8 := Lib.hid (Tx.blk_on hb GW7.out)
  have X8 := Lib.hid (Tx.blk_on hb X7.out)
  have GG8 := Lib.hid (Tx.blk_on hb GG7.out)
  have P8 := Lib.hid (P7.out.on hb)
  have Z8 := Lib.hid (Z7.out.on hb)
  have O8 := Lib.hid (O7.out.on hb)
  have K8 := Lib.hid (K7.out.trans (hb.mono K7.out.size))
  clear hb Q7 B7 GW7 X7 GG7 K7 P7 Z7 O7
  go_wp2
  refine Tx.wp_region_own (W := w8) [] (fun _ => True) Tx.stays_true trivial [0, 0, 1, 1, 0] (by kernel_rfl) (by kernel_rfl) (by kernel_rfl) ?_
  have rX : Hid (∀ q : Tx.In (Tx.plainEnv w8 []), q.w.heap[w4.heap.size]? = some (.cells #[.int .i64 st, .int .i64 sh, .int .i64 sd, .int .i64 sp, .int .i64 eu, .int .i64 es, .int .i64 eh, .int .i64 ea, .int .i64 en, .int .i64 fu, .int .i64 fs, .int .i64 fh, .int .i64 fa, .int .i64 fn, .slice (some ⟨gx, 0, none⟩) n n] 32)) := fun q => q.block X8.out (by simp)
  have rQ : Hid (∀ q : Tx.In (Tx.plainEnv w8 []), q.w.heap[w.heap.size]? = some (.cells #[.int .i64 st, .int .i64 sh, .int .i64 sd, .int .i64 sp, .int .i64 eu, .int .i64 es, .int .i64 eh, .int .i64 ea, .int .i64 en, .int .i64 fu, .int .i64 fs, .int .i64 fh, .int .i64 fa, .int .i64 fn, .slice A n cap] 56)) := fun q => q.block Q8.out (by simp)
  refine Tx.wpO_load_row rfl 32 _ rfl (w4.heap.size) rfl 32 _ (0, 0) _ rX.out Tryd.underlying32 rfl (by kernel_rfl) ?_
  simp only [Act.put, List.setIfInBounds_toArray, List.set_cons_succ, List.set_cons_zero]
  refine Tx.wpO_load_row rfl 56 _ rfl (w.heap.size) rfl 56 _ (0, 0) _ rQ.out Tryd.underlying56 rfl (by kernel_rfl) ?_
  simp only [Act.put, List.setIfInBounds_toArray, List.set_cons_succ, List.set_cons_zero]
  refine Tx.wpO_callx (f := 22) (args := #[.agg #[.int .i64 st, .int .i64 sh, .int .i64 sd, .int .i64 sp, .int .i64 eu, .int .i64 es, .int .i64 eh, .int .i64 ea, .int .i64 en, .int .i64 fu, .int .i64 fs, .int .i64 fh, .int .i64 fa, .int .i64 fn, .slice A n cap]]) (α := Nat) (fun g => .agg #[.int .i64 st, .int .i64 sh, .int .i64 sd, .int .i64 sp, .int .i64 eu, .int .i64 es, .int .i64 eh, .int .i64 ea, .int .i64 en, .int .i64 fu, .int .i64 fs, .int .i64 fh, .int .i64 fa, .int .i64 fn, .slice (some ⟨g, 0, none⟩) n n]) (fun g => [g]) (fun g w' => Tx.CopyE w' g n l) rfl (fun w' => by simp [go_sem]) (fun g w1 w2 hw h b => h.on b) (fun G => ?_) (fun w' hw hF => ?_) (fun gy hgy => ?_)
  · obtain ⟨g, hg, hn'⟩ := Tx.fresh_above w8.heap.size G
    exact ⟨g, fun k hk => by simp at hk; subst hk; exact ⟨hg, hn'⟩⟩
  · have kb := Tx.kept_below hw
    have kk := kb.size
    exact (Tx.toSeat_any ⟨st, sh, sd, sp, ⟨⟨eu, es, eh, ea⟩, en⟩, ⟨⟨fu, fs, fh, fa⟩, fn⟩⟩ A n cap l w' ((E.out.below (K8.out.trans (kb.mono K8.out.size))).mono (Nat.le_trans K8.out.size kb.size)) hn).mono fun e w'' ⟨g, he, h1, m, b1⟩ => ⟨g, he, m, b1, fun k hk => by simp at hk; subst hk; exact ⟨by omega, m.lies.1⟩⟩
  simp only [Act.put, List.setIfInBounds_toArray, List.set_cons_succ, List.set_cons_zero]
  refine Tx.wpO_call (f := 24) (args := #[.agg #[.int .i64 st, .int .i64 sh, .int .i64 sd, .int .i64 sp, .int .i64 eu, .int .i64 es, .int .i64 eh, .int .i64 ea, .int .i64 en, .int .i64 fu, .int .i64 fs, .int .i64 fh, .int .i64 fa, .int .i64 fn, .slice (some ⟨gx, 0, none⟩) n n], .agg #[.int .i64 st, .int .i64 sh, .int .i64 sd, .int .i64 sp, .int .i64 eu, .int .i64 es, .int .i64 eh, .int .i64 ea, .int .i64 en, .int .i64 fu, .int .i64 fs, .int .i64 fh, .int .i64 fa, .int .i64 fn, .slice (some ⟨gy, 0, none⟩) n n]]) (.bool true) rfl (fun w' => by simp [go_sem]) (fun w' hC hF => Tx.eqSeat_same ⟨st, sh, sd, sp, ⟨⟨eu, es, eh, ea⟩, en⟩, ⟨⟨fu, fs, fh, fa⟩, fn⟩⟩ _ _ n n n l w' ((Z8.out.on (Tx.kept_below hC)).elts hln) (hF.2.elts hln) hn) ?_
  simp only [Act.put, List.setIfInBounds_toArray, List.set_cons_succ, List.set_cons_zero]
  refine Tx.wpO_quiet 1 rfl (by kernel_rfl) ?_
  simp only [List.take, List.drop]
  repeat (go_big_quiet_step (fail))
  refine wpQuiet_nil ?_
  clear hgy
  refine Tx.wpO_nil ?_
  rintro w9 hb' _
  have hb := Tx.kept_below hb'
  have hsz7 := hb.size
  have Q9 := Lib.hid (Tx.blk_on hb Q8.out)
  have B9 := Lib.hid (Tx.blk_on hb B8.out)
  have GW9 := Lib.hid (Tx.blk_on hb GW8.out)
  have X9 := Lib.hid (Tx.blk_on hb X8.out)
  have GG9 := Lib.hid (Tx.blk_on hb GG8.out)
  have P9 := Lib.hid (P8.out.on hb)
  have Z9 := Lib.hid (Z8.out.on hb)
  have O9 := Lib.hid (O8.out.on hb)
  have K9 := Lib.hid (K8.out.trans (hb.mono K8.out.size))
  clear rX rQ hb hb' Q8 B8 GW8 X8 GG8 K8 P8 Z8 O8
  go_wp2_with (refine wpList_load_row rfl 32 _ rfl (w4.heap.size) rfl 32 _ (0, 0) _ X9.out Tryd.underlying32 rfl (by kernel_rfl) ?_)
  have hKs := K9.out.size
  have cm := Tx.markSeat_any ⟨st, sh, sd, sp, ⟨⟨eu, es, eh, ea⟩, en⟩, ⟨⟨fu, fs, fh, fa⟩, fn⟩⟩ gx n n 1 (by omega) _ Z9.out.lies.1 Z9.out.room
  refine cm.mono ?_
  rintro e wm ⟨rfl, hF, gr⟩
  have hsg := gr.size
  clear hF cm
  clear Z9
  have Q10 : Hid (wm.heap[w.heap.size]? = some (.cells #[.int .i64 st, .int .i64 sh, .int .i64 sd, .int .i64 sp, .int .i64 eu, .int .i64 es, .int .i64 eh, .int .i64 ea, .int .i64 en, .int .i64 fu, .int .i64 fs, .int .i64 fh, .int .i64 fa, .int .i64 fn, .slice A n cap] 56)) := (gr.block _ (Tx.blk_in Q9.out) (fun e => by have e1 := Option.some.inj e; omega)).trans Q9.out
  have B10 : Hid (wm.heap[w.heap.size + 1]? = some (.cells #[.int .i64 xu, .int .i64 xs, .int .i64 xh, .int .i64 xa, .int .i64 xn, .string xt, .bool xp] 58)) := (gr.block _ (Tx.blk_in B9.out) (fun e => by have e1 := Option.some.inj e; omega)).trans B9.out
  have GW10 : Hid (wm.heap[gGW]? = some (.cells #[.int .i64 rst, .int .i64 rsh, .int .i64 rsd, .int .i64 rsp, .int .i64 reu, .int .i64 res, .int .i64 reh, .int .i64 rea, .int .i64 ren, .int .i64 rfu, .int .i64 rfs, .int .i64 rfh, .int .i64 rfa, .int .i64 rfn, .slice Bp out.length cp] 32)) := (gr.block _ (Tx.blk_in GW9.out) (fun e => by have e1 := Option.some.inj e; omega)).trans GW9.out
  have X10 : Hid (wm.heap[w4.heap.size]? = some (.cells #[.int .i64 st, .int .i64 sh, .int .i64 sd, .int .i64 sp, .int .i64 eu, .int .i64 es, .int .i64 eh, .int .i64 ea, .int .i64 en, .int .i64 fu, .int .i64 fs, .int .i64 fh, .int .i64 fa, .int .i64 fn, .slice (some ⟨gx, 0, none⟩) n n] 32)) := (gr.block _ (Tx.blk_in X9.out) (fun e => by have e1 := Option.some.inj e; omega)).trans X9.out
  have GG10 : Hid (wm.heap[gGG]? = some (.cells #[.int .i64 rst, .int .i64 rsh, .int .i64 rsd, .int .i64 rsp, .int .i64 reu, .int .i64 res, .int .i64 reh, .int .i64 rea, .int .i64 ren, .int .i64 rfu, .int .i64 rfs, .int .i64 rfh, .int .i64 rfa, .int .i64 rfn, .slice Bo out.length co] 32)) := (gr.block _ (Tx.blk_in GG9.out) (fun e => by have e1 := Option.some.inj e; omega)).trans GG9.out
  have P10 : Hid (Tx.OutE wm w2.heap.size 69 Bp out.length cp out) := P9.out.heap (fun k e => gr.block _ (P9.out.lt e).2 (fun e1 => by have h1 := hlP k e; have h2 := Option.some.inj e1; omega))
  have O10 : Hid (Tx.OutE wm S6.heap.size 69 Bo out.length co out) := O9.out.heap (fun k e => gr.block _ (O9.out.lt e).2 (fun e1 => by have h1 := hlO k e; have h2 := Option.some.inj e1; omega))
  have K10 : Hid (Below w.heap.size w wm) := K9.out.grown gr K9.out.size (fun j e => by have e1 := Option.some.inj e; omega)
  clear Q9 B9 GW9 X9 GG9 P9 O9 K9
  clear gr
  obtain ⟨m1, hm1⟩ : ∃ m, 1 + n * 2 = m := ⟨_, rfl⟩
  rw [hm1]
  have hm0 : ¬ (m1 : Int) < 0 := by omega
  clear hm1
  go_wp2_with (first | (refine Tx.wpList_load_wanted rfl 32 _ rfl (gGG) rfl 32 _ (0, 0) _ GG10.out Tryd.underlying32 rfl (by kernel_rfl) ?_) | (refine Tx.wpList_load_wanted rfl 32 _ rfl (gGW) rfl 32 _ (0, 0) _ GW10.out Tryd.underlying32 rfl (by kernel_rfl) ?_))
  refine (Tx.eqSeat_same ⟨rst, rsh, rsd, rsp, ⟨⟨reu, res, reh, rea⟩, ren⟩, ⟨⟨rfu, rfs, rfh, rfa⟩, rfn⟩⟩ Bo Bp out.length co cp out _ O10.out.elts P10.out.elts hol).mono ?_
  rintro e w21 ⟨rfl, hb⟩
  have hsz8 := hb.size
  have Q11 := Lib.hid (Tx.blk_on hb Q10.out)
  have B11 := Lib.hid (Tx.blk_on hb B10.out)
  have GW11 := Lib.hid (Tx.blk_on hb GW10.out)
  have X11 := Lib.hid (Tx.blk_on hb X10.out)
  have GG11 := Lib.hid (Tx.blk_on hb GG10.out)
  have P11 := Lib.hid (P10.out.on hb)
  have O11 := Lib.hid (O10.out.on hb)
  have K11 := Lib.hid (K10.out.trans (hb.mono K10.out.size))
  clear hb Q10 B10 GW10 X10 GG10 K10 P10 O10
  go_wp2_with (refine wpList_load_row rfl 32 _ rfl (gGG) rfl 32 _ (0, 0) _ GG11.out Tryd.underlying32 rfl (by kernel_rfl) ?_)
  have hKt := K11.out.size
  have hlo : ∀ k, Tx.blkA Bo = some k → w.heap.size ≤ k := fun k e => by have := hlO k e; omega
  refine (Tx.markSeat_out ⟨rst, rsh, rsd, rsp, ⟨⟨reu, res, reh, rea⟩, ren⟩, ⟨⟨rfu, rfs, rfh, rfa⟩, rfn⟩⟩ Bo out.length co 1 _ out (by omega) hol _ O11.out).mono ?_
  rintro e wn ⟨rfl, hF, gr⟩
  have hsg2 := gr.size
  clear O11
  have Q12 : Hid (wn.heap[w.heap.size]? = some (.cells #[.int .i64 st, .int .i64 sh, .int .i64 sd, .int .i64 sp, .int .i64 eu, .int .i64 es, .int .i64 eh, .int .i64 ea, .int .i64 en, .int .i64 fu, .int .i64 fs, .int .i64 fh, .int .i64 fa, .int .i64 fn, .slice A n cap] 56)) := (gr.block _ (Tx.blk_in Q11.out) (fun e => by have h1 := hlO _ e.symm; omega)).trans Q11.out
  have B12 : Hid (wn.heap[w.heap.size + 1]? = some (.cells #[.int .i64 xu, .int .i64 xs, .int .i64 xh, .int .i64 xa, .int .i64 xn, .string xt, .bool xp] 58)) := (gr.block _ (Tx.blk_in B11.out) (fun e => by have h1 := hlO _ e.symm; omega)).trans B11.out
  have GW12 : Hid (wn.heap[gGW]? = some (.cells #[.int .i64 rst, .int .i64 rsh, .int .i64 rsd, .int .i64 rsp, .int .i64 reu, .int .i64 res, .int .i64 reh, .int .i64 rea, .int .i64 ren, .int .i64 rfu, .int .i64 rfs, .int .i64 rfh, .int .i64 rfa, .int .i64 rfn, .slice Bp out.length cp] 32)) := (gr.block _ (Tx.blk_in GW11.out) (fun e => by have h1 := hlO _ e.symm; omega)).trans GW11.out
  have X12 : Hid (wn.heap[w4.heap.size]? = some (.cells #[.int .i64 st, .int .i64 sh, .int .i64 sd, .int .i64 sp, .int .i64 eu, .int .i64 es, .int .i64 eh, .int .i64 ea, .int .i64 en, .int .i64 fu, .int .i64 fs, .int .i64 fh, .int .i64 fa, .int .i64 fn, .slice (some ⟨gx, 0, none⟩) n n] 32)) := (gr.block _ (Tx.blk_in X11.out) (fun e => by have h1 := hlO _ e.symm; omega)).trans X11.out
  have GG12 : Hid (wn.heap[gGG]? = some (.cells #[.int .i64 rst, .int .i64 rsh, .int .i64 rsd, .int .i64 rsp, .int .i64 reu, .int .i64 res, .int .i64 reh, .int .i64 rea, .int .i64 ren, .int .i64 rfu, .int .i64 rfs, .int .i64 rfh, .int .i64 rfa, .int .i64 rfn, .slice Bo out.length co] 32)) := (gr.block _ (Tx.blk_in GG11.out) (fun e => hneO _ e.symm rfl)).trans GG11.out
  have P12 : Hid (Tx.OutE wn w2.heap.size 69 Bp out.length cp out) := P11.out.heap (fun k e => gr.block _ (P11.out.lt e).2 (fun e1 => by have h1 := hlP k e; have h2 := hlO k e1.symm; omega))
  have K12 : Hid (Below w.heap.size w wn) := K11.out.grown gr K11.out.size (fun j e => by have := hlo j e; omega)
  clear Q11 B11 GW11 X11 GG11 P11 K11
  have F12 := Lib.hid hF
  clear hF gr
  obtain ⟨m2, hm2⟩ : ∃ m, 1 + out.length * 2 = m := ⟨_, rfl⟩
  rw [hm2]
  have hm3 : ¬ (m2 : Int) < 0 := by omega
  have hmm : ((m2 : Int) != (m2 : Int)) = false := by simp
  go_wp2_with (refine wpList_load_row rfl 32 _ rfl (gGG) rfl 32 _ (0, 0) _ GG12.out Tryd.underlying32 rfl (by kernel_rfl) ?_)
  have ch := Tx.heldSeat_out ⟨rst, rsh, rsd, rsp, ⟨⟨reu, res, reh, rea⟩, ren⟩, ⟨⟨rfu, rfs, rfh, rfa⟩, rfn⟩⟩ Bo out.length co 1 (by omega) hol _ F12.out
  rw [hm2] at ch
  refine (ch).mono ?_
  rintro e w31 ⟨rfl, hb⟩
  clear ch
  have hsz9 := hb.size
  have Q13 := Lib.hid (Tx.blk_on hb Q12.out)
  have B13 := Lib.hid (Tx.blk_on hb B12.out)
  have GW13 := Lib.hid (Tx.blk_on hb GW12.out)
  have X13 := Lib.hid (Tx.blk_on hb X12.out)
  have GG13 := Lib.hid (Tx.blk_on hb GG12.out)
  have P13 := Lib.hid (P12.out.on hb)
  have F13 := Lib.hid (F12.out.on hb)
  have K13 := Lib.hid (K12.out.trans (hb.mono K12.out.size))
  clear hb Q12 B12 GW12 X12 GG12 K12 P12 F12
  go_wp2
  refine Tx.wp_region_own (W := w31) [] (fun _ => True) Tx.stays_true trivial [0, 1, 0, 1, 1, 0, 0, 0, 2, 3, 0] (by kernel_rfl) (by kernel_rfl) (by kernel_rfl) ?_
  have rQ : Hid (∀ q : Tx.In (Tx.plainEnv w31 []), q.w.heap[w.heap.size]? = some (.cells #[.int .i64 st, .int .i64 sh, .int .i64 sd, .int .i64 sp, .int .i64 eu, .int .i64 es, .int .i64 eh, .int .i64 ea, .int .i64 en, .int .i64 fu, .int .i64 fs, .int .i64 fh, .int .i64 fa, .int .i64 fn, .slice A n cap] 56)) := fun q => q.block Q13.out (by simp)
  have rB : Hid (∀ q : Tx.In (Tx.plainEnv w31 []), q.w.heap[w.heap.size + 1]? = some (.cells #[.int .i64 xu, .int .i64 xs, .int .i64 xh, .int .i64 xa, .int .i64 xn, .string xt, .bool xp] 58)) := fun q => q.block B13.out (by simp)
  refine Tx.wpO_load_row rfl 56 _ rfl (w.heap.size) rfl 56 _ (0, 0) _ rQ.out Tryd.underlying56 rfl (by kernel_rfl) ?_
  simp only [Act.put, List.setIfInBounds_toArray, List.set_cons_succ, List.set_cons_zero]
  refine Tx.wpO_callx (f := 22) (args := #[.agg #[.int .i64 st, .int .i64 sh, .int .i64 sd, .int .i64 sp, .int .i64 eu, .int .i64 es, .int .i64 eh, .int .i64 ea, .int .i64 en, .int .i64 fu, .int .i64 fs, .int .i64 fh, .int .i64 fa, .int .i64 fn, .slice A n cap]]) (α := Nat) (fun g => .agg #[.int .i64 st, .int .i64 sh, .int .i64 sd, .int .i64 sp, .int .i64 eu, .int .i64 es, .int .i64 eh, .int .i64 ea, .int .i64 en, .int .i64 fu, .int .i64 fs, .int .i64 fh, .int .i64 fa, .int .i64 fn, .slice (some ⟨g, 0, none⟩) n n]) (fun g => [g]) (fun g w' => Tx.CopyE w' g n l) rfl (fun w' => by simp [go_sem]) (fun g w1 w2 hw h b => h.on b) (fun G => ?_) (fun w' hw hF => ?_) (fun x2 hgy => ?_)
  · obtain ⟨g, hg, hn'⟩ := Tx.fresh_above w31.heap.size G
    exact ⟨g, fun k hk => by simp at hk; subst hk; exact ⟨hg, hn'⟩⟩
  · have kb := Tx.kept_below hw
    have kk := kb.size
    exact (Tx.toSeat_any ⟨st, sh, sd, sp, ⟨⟨eu, es, eh, ea⟩, en⟩, ⟨⟨fu, fs, fh, fa⟩, fn⟩⟩ A n cap l w' ((E.out.below (K13.out.trans (kb.mono K13.out.size))).mono (Nat.le_trans K13.out.size kb.size)) hn).mono fun e w'' ⟨g, he, h1, m, b1⟩ => ⟨g, he, m, b1, fun k hk => by simp at hk; subst hk; exact ⟨by omega, m.lies.1⟩⟩
  simp only [Act.put, List.setIfInBounds_toArray, List.set_cons_succ, List.set_cons_zero]
  refine Tx.wpO_load_row rfl 58 _ rfl (w.heap.size + 1) rfl 58 _ (0, 0) _ rB.out Tryd.underlying58 rfl (by kernel_rfl) ?_
  simp only [Act.put, List.setIfInBounds_toArray, List.set_cons_succ, List.set_cons_zero]
  refine Tx.wpO_call (f := 23) (args := #[.agg #[.int .i64 xu, .int .i64 xs, .int .i64 xh, .int .i64 xa, .int .i64 xn, .string xt, .bool xp]]) (.agg #[.int .i64 xu, .int .i64 xs, .int .i64 xh, .int .i64 xa, .int .i64 xn, .string xt, .bool xp]) rfl (fun w' => by simp [go_sem]) (fun w' hC _ => cB.out _) ?_
  simp only [Act.put, List.setIfInBounds_toArray, List.set_cons_succ, List.set_cons_zero]
  refine Tx.wpO_callx (f := 15) (args := #[.agg #[.int .i64 st, .int .i64 sh, .int .i64 sd, .int .i64 sp, .int .i64 eu, .int .i64 es, .int .i64 eh, .int .i64 ea, .int .i64 en, .int .i64 fu, .int .i64 fs, .int .i64 fh, .int .i64 fa, .int .i64 fn, .slice (some ⟨x2, 0, none⟩) n n], .agg #[.int .i64 xu, .int .i64 xs, .int .i64 xh, .int .i64 xa, .int .i64 xn, .string xt, .bool xp]]) (α := Option Addr × Nat) (fun z => .tuple #[.agg #[.int .i64 rst, .int .i64 rsh, .int .i64 rsd, .int .i64 rsp, .int .i64 reu, .int .i64 res, .int .i64 reh, .int .i64 rea, .int .i64 ren, .int .i64 rfu, .int .i64 rfs, .int .i64 rfh, .int .i64 rfa, .int .i64 rfn, .slice z.1 out.length z.2], .int .i64 y]) (fun z => (Tx.blkA z.1).toList) (fun z w' => Tx.OutE w' w31.heap.size 69 z.1 out.length z.2 out) rfl (fun w' => by simp [go_sem]) (fun z w1 w2 hw h b => h.on b) (fun G => ⟨(none, 0), fun k hk => by cases hk⟩) (fun w' hw hF => ?_) (fun z hz => ?_)
  · exact (cI.out w' x2 hF.2 (HTB.out.on (K13.out.trans ((Tx.kept_below hw).mono K13.out.size)))).mono fun e w'' ⟨B, c, he, m, b1⟩ => ⟨(B, c), he, m.mono (Tx.kept_below hw).size, b1, fun k hk => m.lt (by simpa using hk)⟩
  obtain ⟨Bj, cj⟩ := z
  dsimp only
  simp only [Act.put, List.setIfInBounds_toArray, List.set_cons_succ, List.set_cons_zero]
  refine Tx.wpO_quiet 3 rfl (by kernel_rfl) ?_
  simp only [List.take, List.drop]
  repeat (go_big_quiet_step (fail))
  refine wpQuiet_nil ?_
  refine Tx.wpO_alloc (.cells #[.int .i64 0, .int .i64 0, .int .i64 0, .int .i64 0, .int .i64 0, .int .i64 0, .int .i64 0, .int .i64 0, .int .i64 0, .int .i64 0, .int .i64 0, .int .i64 0, .int .i64 0, .int .i64 0, .slice none 0 0] 32) rfl (fun w' => by simp [go_sem]) fun gGH mg hng => ?_
  have hgGH : w31.heap.size ≤ gGH := mg
  have hneJ : ∀ k, Tx.blkA Bj = some k → k ≠ gGH := fun k e e2 => hng (by subst e2; simp [e])
  simp only [Act.put, List.setIfInBounds_toArray, List.set_cons_succ, List.set_cons_zero]
  refine Tx.wpO_store (g := gGH) (t := 32) (old := #[.int .i64 0, .int .i64 0, .int .i64 0, .int .i64 0, .int .i64 0, .int .i64 0, .int .i64 0, .int .i64 0, .int .i64 0, .int .i64 0, .int .i64 0, .int .i64 0, .int .i64 0, .int .i64 0, .slice none 0 0]) (fun w' => Tx.OutE w' w31.heap.size 69 Bj out.length cj out) #[.int .i64 rst, .int .i64 rsh, .int .i64 rsd, .int .i64 rsp, .int .i64 reu, .int .i64 res, .int .i64 reh, .int .i64 rea, .int .i64 ren, .int .i64 rfu, .int .i64 rfs, .int .i64 rfh, .int .i64 rfa, .int .i64 rfn, .slice Bj out.length cj] rfl rfl rfl rfl (Tx.Env.own _ mg) (by kernel_rfl) rfl rfl (fun w' h => ⟨h.1.2, h.2⟩) (fun w1 w2 hw h b => h.on b) (fun w1 w2 hw h => h.heap (fun k e => hw k (h.lt e).2 (hneJ k e))) ?_
  simp only [Act.put]
  refine Tx.wpO_quiet 1 rfl (by kernel_rfl) ?_
  simp only [List.take, List.drop]
  repeat (go_big_quiet_step (fail))
  refine wpQuiet_nil ?_
  refine Tx.wpO_nil ?_
  rintro w32 hb' ⟨hM, hG⟩
  have hb := Tx.kept_below hb'
  have hlJ : ∀ k, Tx.blkA Bj = some k → w31.heap.size ≤ k ∧ k < w32.heap.size := fun k e => hM.lt e
  have ltGH := Tx.blk_in hG
  have hsz10 := hb.size
  have Q14 := Lib.hid (Tx.blk_on hb Q13.out)
  have B14 := Lib.hid (Tx.blk_on hb B13.out)
  have GW14 := Lib.hid (Tx.blk_on hb GW13.out)
  have X14 := Lib.hid (Tx.blk_on hb X13.out)
  have GG14 := Lib.hid (Tx.blk_on hb GG13.out)
  have P14 := Lib.hid (P13.out.on hb)
  have F14 := Lib.hid (F13.out.on hb)
  have K14 := Lib.hid (K13.out.trans (hb.mono K13.out.size))
  clear hb hb' rQ rB Q13 B13 GW13 X13 GG13 K13 P13 F13
  have GH14 := Lib.hid hG
  have J14 := Lib.hid hM
  clear hG hM
  clear hgy
  go_wp2_with (first | (refine wpList_load_row rfl 32 _ rfl (gGH) rfl 32 _ (0, 0) _ GH14.out Tryd.underlying32 rfl (by kernel_rfl) ?_) | (refine wpList_load_row rfl 32 _ rfl (gGW) rfl 32 _ (0, 0) _ GW14.out Tryd.underlying32 rfl (by kernel_rfl) ?_))
  refine (Tx.eqSeat_same ⟨rst, rsh, rsd, rsp, ⟨⟨reu, res, reh, rea⟩, ren⟩, ⟨⟨rfu, rfs, rfh, rfa⟩, rfn⟩⟩ Bj Bp out.length cj cp out _ J14.out.elts P14.out.elts hol).mono ?_
  rintro e w33 ⟨rfl, hb⟩
  have hsz11 := hb.size
  have Q15 := Lib.hid (Tx.blk_on hb Q14.out)
  have B15 := Lib.hid (Tx.blk_on hb B14.out)
  have GW15 := Lib.hid (Tx.blk_on hb GW14.out)
  have X15 := Lib.hid (Tx.blk_on hb X14.out)
  have GG15 := Lib.hid (Tx.blk_on hb GG14.out)
  have GH15 := Lib.hid (Tx.blk_on hb GH14.out)
  have P15 := Lib.hid (P14.out.on hb)
  have F15 := Lib.hid (F14.out.on hb)
  have J15 := Lib.hid (J14.out.on hb)
  have K15 := Lib.hid (K14.out.trans (hb.mono K14.out.size))
  clear hb Q14 B14 GW14 X14 GG14 GH14 K14 P14 F14 J14
  go_wp2_with (refine wpList_load_row rfl 32 _ rfl (gGG) rfl 32 _ (0, 0) _ GG15.out Tryd.underlying32 rfl (by kernel_rfl) ?_)
  have ch := Tx.heldSeat_out ⟨rst, rsh, rsd, rsp, ⟨⟨reu, res, reh, rea⟩, ren⟩, ⟨⟨rfu, rfs, rfh, rfa⟩, rfn⟩⟩ Bo out.length co 1 (by omega) hol _ F15.out
  rw [hm2] at ch
  refine (ch).mono ?_
  rintro e w34 ⟨rfl, hb⟩
  clear ch
  have hsz12 := hb.size
  have Q16 := Lib.hid (Tx.blk_on hb Q15.out)
  have B16 := Lib.hid (Tx.blk_on hb B15.out)
  have GW16 := Lib.hid (Tx.blk_on hb GW15.out)
  have X16 := Lib.hid (Tx.blk_on hb X15.out)
  have GG16 := Lib.hid (Tx.blk_on hb GG15.out)
  have GH16 := Lib.hid (Tx.blk_on hb GH15.out)
  have P16 := Lib.hid (P15.out.on hb)
  have F16 := Lib.hid (F15.out.on hb)
  have J16 := Lib.hid (J15.out.on hb)
  have K16 := Lib.hid (K15.out.trans (hb.mono K15.out.size))
  clear hb Q15 B15 GW15 X15 GG15 GH15 K15 P15 F15 J15
  go_wp2
  go_ret
  exact ⟨rfl, K16.out⟩

theorem door_met (os : Os) (args : Array Value) : laidMetH Tryd.prog Rows.fnExactHearsRow.laid ((Tx.doorWorld os).forCall (fun _ _ => 0) ⟨#[], args, []⟩).memory := by
  rw [MakeChecks.laidMetH_plain _ _ _ (by kernel_rfl)]
  exact laidMet_of_run' 8 (by kernel_rfl) (by kernel_rfl)
theorem tab {W : World} (h : laidMetH Tryd.prog Rows.fnExactHearsRow.laid W) : Tx.Tab W := by
  rw [MakeChecks.laidMetH_plain _ _ _ (by kernel_rfl)] at h
  exact Tx.tab_of (laidMet.tail (laidMet.tail h))

theorem own : ownKnob Tryd.prog.godebug = none := by kernel_rfl
theorem laidOut : laidOutB Tryd.prog = true := by kernel_rfl

set_option maxRecDepth 100000 in
theorem lifted (os : Os) (started : os.Started) (H : Type) (enc : TypeId × Value → H) :
    ReturnsInHanded {} Tryd.checked os 4 .any (fun w args => (Rows.fnExactHearsSpec.pre enc Tryd.prog Tryd.f4 [] false w args ∧ laidMetH Tryd.prog Rows.fnExactHearsRow.laid w) ∧ sizedMet enc Tryd.prog Tryd.f4 (OpenSpec.ofChange Rows.fnExactHearsSpec) false w args)
      (Rows.fnExactHearsSpec.post enc Tryd.prog Tryd.f4 false true false false) := by
  refine returnsInHanded_of_change_and (C := Tryd.checked) (X := fun w _ => laidMetH Tryd.prog Rows.fnExactHearsRow.laid w) (fun _ _ _ hh h => h.of_heap hh) own started (by kernel_rfl) Tryd.func4
    (ChangeSpec.witness_shaped (enc := enc) (C := Tryd.checked) (os := os) (X := fun w _ => laidMetH Tryd.prog Rows.fnExactHearsRow.laid w) false (Tx.doorWorld os) #[.agg #[.int .i64 0, .int .i64 0, .int .i64 0, .int .i64 0, .int .i64 0, .int .i64 0, .int .i64 0, .int .i64 0, .int .i64 0, .int .i64 0, .int .i64 0, .int .i64 0, .int .i64 0, .int .i64 0, .slice none 0 0], .agg #[.int .i64 0, .int .i64 0, .int .i64 0, .int .i64 0, .int .i64 0, .string ByteArray.empty, .bool false]] 8 rfl (Tx.door_shaped os _) (by kernel_rfl) (by kernel_rfl) (by kernel_rfl) (door_met os _)) ?_
  intro W base args ds gs before hval0 hW _ _ hL hsh
  have hval : ∀ (j : Nat) t v, Tryd.f4.params[j]? = some t → args[j]? = some v → Value.okWide Tryd.prog W .any base t v := hval0
  have hW' := hW
  obtain ⟨p, q, hA0, hV, rfl, hfz, hnd⟩ := hW
  have hA : DataW.TrodAll enc Tryd.prog W 0 (fun _ => true) true Tryd.f4.params.toList args.toList ds p := hA0
  rw [Tryd.params4] at hA hval
  obtain ⟨v0, vs0, d0, ds0, p0, q0, hargs, rfl, rfl, h0, r0⟩ := trodAll_cons hA
  obtain ⟨v1, vs1, d1, ds1, p1, q1, rfl, rfl, rfl, h1, r1⟩ := trodAll_cons r0
  obtain ⟨rfl, rfl, rfl⟩ := trodAll_nil r1
  obtain rfl : args = #[v0, v1] := by cases args; simp_all
  obtain ⟨rfl, rfl⟩ := trodVars_none hV
  have k0 := h0
  have lt0 : ∀ x ∈ p0, x.block < W.heap.size := by obtain ⟨m, hm⟩ := k0; exact DataW.trod_lt m _ _ _ hm
  have k1 := h1
  have lt1 : ∀ x ∈ p1, x.block < W.heap.size := by obtain ⟨m, hm⟩ := k1; exact DataW.trod_lt m _ _ _ hm
  obtain ⟨s0, A0, n0, cp0, z0, rfl, w0⟩ := Tx.open_seat (hval 0 56 v0 rfl rfl) h0
  obtain ⟨b1, rfl, w1⟩ := Tx.open_box (hval 1 58 v1 rfl rfl) h1
  clear hA0 hval0
  refine (walk W s0 A0 n0 cp0 z0 w0.1 w0.2.1 w0.2.2 b1 w1 (tab hL)).mono fun e W' ⟨he, bel⟩ => ?_
  subst he
  exact ⟨_, rfl, _, _, _, [], _, [], hW', trodAll_mk1 (shut_bool Tryd.underlying4 _), (trodAll_cons_mk (Below.trod laidOut (by kernel_rfl) (of_decide_eq_true (by kernel_rfl)) k0 bel lt0) (trodAll_cons_mk (Below.trod laidOut (by kernel_rfl) (of_decide_eq_true (by kernel_rfl)) k1 bel lt1) trodAll_mk0)), rfl, bel.frame _, fun h => by cases h⟩

theorem over : Rows.fnExactHearsRow.holds Tryd.pinned (OpenSpec.ofChange Rows.fnExactHearsSpec) :=
  OpenClaim.holds_of_wide 4 Tryd.f4 rfl rfl rfl rfl rfl rfl rfl ⟨rfl, rfl, rfl, rfl, rfl⟩ rfl rfl rfl rfl rfl (by kernel_rfl) Tryd.func4 (by kernel_rfl)
    (of_decide_eq_true (by kernel_rfl)) (by unfold Func.isWrapper; first | (rw [if_pos (by decide +kernel)]; kernel_rfl) | (rw [if_neg (by decide +kernel)]; exact ⟨rfl, rfl⟩))
    (fun os started H enc _ => lifted os started H enc)

end Go.Proofs.YtchdmmlkgglmcaaDoor.fnExactHears

namespace Go.Proofs.YtchdmmlkgglmcaaDoor
theorem fnExactHears_proved : Rows.FnExactHearsCardSaid :=
  Claim7.holds_tied_plain_at .later [] Rows.fnExactHearsCard.laidKinds true Rows.fnExactHearsCard.stood.harness true
    fnExactHears.over (fun _ h => by cases h) (by kernel_rfl) (fun _ h => by cases h) fnExactHears_row_tie rfl ⟨rfl, rfl⟩ (by kernel_rfl) rfl
    (fun f fn hf hfn => by
      obtain rfl : f = 4 := Option.some.inj ((show Tryd.prog.funcNamed Rows.fnExactHearsRow.func = some 4 by kernel_rfl).symm.trans hf) |>.symm
      obtain rfl : fn = Tryd.f4 := (Option.some.inj (Tryd.func4.symm.trans hfn)).symm
      exact ⟨by kernel_rfl, fun j t ht => by
        rw [Tryd.params4] at ht
        have hm : t ∈ [56, 58] := by simpa using Array.mem_of_getElem? ht
        have hall : ([56, 58].all fun u => !Tryd.prog.wantsStandIn u) = true := by kernel_rfl
        exact (show Tryd.prog.wantsStandIn t = false by simpa using List.all_eq_true.1 hall t hm)⟩)
    (by kernel_rfl)
#print axioms fnExactHears_proved
end Go.Proofs.YtchdmmlkgglmcaaDoor

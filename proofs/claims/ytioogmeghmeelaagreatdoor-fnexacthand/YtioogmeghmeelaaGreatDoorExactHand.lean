/-
  The law FnExactHand returns true at every inn, number and box, and they read behind the call as they read before: Hand of the program and of the model answer alike, and what the program answers is new memory. Conditions: those that the card itself names (the listed variables of the library hold what its text lays in them).
-/
import Derived.Test.YtioogmeghmeelaaGreatDoorRows
import Derived.WalkKit
import Derived.ProofKit
import Derived.OpenShut
import Derived.ShutString
import Derived.ChangeOld
import Derived.Below
import Derived.SliceStrings
import Derived.Lib.SmallJoins
import Derived.Test.YtioogmeghmeelaaGreatDoorCards
import Derived.Test.YtioogmeghmeelaaGreatDoorTie
import Derived.LaidMore
import Derived.Stop.Joined
import Derived.SevenTiedAt
import Derived.Test.YtioogmeghmeelaaGreatDoorOpen15
import Derived.Test.YtioogmeghmeelaaGreatDoorInn5
import Derived.Test.YtioogmeghmeelaaGreatDoorInn7
import Derived.Test.YtioogmeghmeelaaGreatDoorInn11
import Derived.Test.YtioogmeghmeelaaGreatDoorImpl15c
import Derived.Test.YtioogmeghmeelaaGreatDoorInn10
import Derived.Test.YtioogmeghmeelaaGreatDoorLaid
namespace Go.Proofs.YtioogmeghmeelaaGreatDoor.fnExactHand
open Go.ChangeShapes Go.WideShapes Go.ChangeAt Go.RowKit
open Go.ChangeMaps (open_string shut_string)
set_option linter.unusedVariables false

set_option maxRecDepth 100000 in
set_option maxHeartbeats 64000000 in
theorem walk (w : World) (M : Option Addr) (nm cm : Nat) (zs : List Int) (s : Int) (A : Option Addr) (n cap : Nat) (ss : List Tx.SeatL) (h : Tx.InnO w w.heap.size M nm A n zs ss) (hlm : nm ≤ maxLen) (hzi : Tx.AllI64 zs) (hln : n ≤ maxLen) (hlq : ∀ q ∈ ss, q.l.length ≤ maxLen ∧ ∀ t ∈ q.l, t.t.size ≤ maxLen) (k : Int) (_hk : (Lit.int .i64 k).wf = true) (b : Tx.BoxV) (hbx : b.t.size ≤ maxLen) (ht : Tx.Tab w) :
    Calls Tryz.prog 3 #[.agg #[.slice M nm cm, .int .i64 s, .slice A n cap], .int .i64 k, b.val] w fun e w' => e = .returned (.bool true) ∧ Below w.heap.size w w' := by
  have hx' : b.t.size ≤ 9223372036854775807 := hbx
  obtain ⟨⟨xu, xs, xh, xa⟩, xn, xt, xp⟩ := b
  have HBV : Hid (Tx.BoxV.val ⟨⟨xu, xs, xh, xa⟩, xn, xt, xp⟩ = .agg #[.int .i64 xu, .int .i64 xs, .int .i64 xh, .int .i64 xa, .int .i64 xn, .string xt, .bool xp]) := rfl
  rw [HBV.out]
  clear HBV hbx
  dsimp only at hx'
  have e63 : maxLen = 9223372036854775807 := rfl
  rw [e63] at hlm hln
  have hlq' : ∀ q ∈ ss, q.l.length ≤ 9223372036854775807 ∧ ∀ t ∈ q.l, t.t.size ≤ 9223372036854775807 := fun q hq => by
    have h9 := hlq q hq
    rw [e63] at h9
    exact h9
  have E := Lib.hid h
  have HI64 := Lib.hid hzi
  have hsl := h.seats.len
  clear h hzi hlq e63
  have HTB := Lib.hid ht
  clear ht
  obtain ⟨W0, hW0⟩ : ∃ W, (w.alloc (.cells #[.slice M nm cm, .int .i64 s, .slice A n cap] 27)).alloc (.cells #[.int .i64 xu, .int .i64 xs, .int .i64 xh, .int .i64 xa, .int .i64 xn, .string xt, .bool xp] 31) = W := ⟨_, rfl⟩
  have K0 : Hid (Below w.heap.size w W0) := by rw [← hW0]; exact ((Below.refl _ w).alloc (Nat.le_refl _) _).alloc (by simp; try omega) _
  have Q0 : Hid (W0.heap[w.heap.size]? = some (.cells #[.slice M nm cm, .int .i64 s, .slice A n cap] 27)) := by rw [← hW0]; exact Tx.heap2a w _ _
  have B0 : Hid (W0.heap[w.heap.size + 1]? = some (.cells #[.int .i64 xu, .int .i64 xs, .int .i64 xh, .int .i64 xa, .int .i64 xn, .string xt, .bool xp] 31)) := by rw [← hW0]; exact Tx.heap2b w _ _
  have zW0 : W0.heap.size = w.heap.size + 2 := by rw [← hW0]; simp
  go_enter Tryz.func3, Tryz.ntmps3
  go_wp2_with (refine wpList_load_row rfl 27 _ rfl (w.heap.size) rfl 27 _ (0, 0) _ Q0.out Tryz.underlying27 rfl (by kernel_rfl) ?_)
  clear hW0
  have cz := Tx.szInn_any M nm cm zs s A n cap ss W0 ((E.out.below K0.out).mono K0.out.size) hlm hln hlq'
  refine cz.mono ?_
  rintro e w1 ⟨Lf, rfl, hL1, hL2, hb⟩
  have hsz1 := hb.size
  have Q1 := Lib.hid (Tx.blk_on hb Q0.out)
  have B1 := Lib.hid (Tx.blk_on hb B0.out)
  have K1 := Lib.hid (K0.out.trans (hb.mono K0.out.size))
  clear hb cz hlm hln hlq' Q0 B0 K0
  by_cases hL : Lf < 0
  ·
    go_wp2
    go_ret
    exact ⟨rfl, K1.out⟩
  obtain ⟨hnm, hn, hl⟩ := hL2 (by omega)
  rw [hsl] at hn
  have HLL := Lib.hid hl
  clear hL2 hl
  go_wp2_with (refine wpList_load_row rfl 31 _ rfl (w.heap.size + 1) rfl 31 _ (0, 0) _ B1.out Tryz.underlying31 rfl (by kernel_rfl) ?_)
  have cz : Calls Tryz.prog 5 #[.agg #[.int .i64 xu, .int .i64 xs, .int .i64 xh, .int .i64 xa, .int .i64 xn, .string xt, .bool xp], .int .i64 Lf] w1 fun e w' => e = .returned (.int .i64 (Tx.szLeft Lf xt.size)) ∧ Below w1.heap.size w1 w' := Tx.szBox_any ⟨⟨xu, xs, xh, xa⟩, xn, xt, xp⟩ hx' Lf (by omega) (by omega) _
  refine (cz).mono ?_
  rintro e w2 ⟨rfl, hb⟩
  clear cz hx'
  have hsz2 := hb.size
  have Q2 := Lib.hid (Tx.blk_on hb Q1.out)
  have B2 := Lib.hid (Tx.blk_on hb B1.out)
  have K2 := Lib.hid (K1.out.trans (hb.mono K1.out.size))
  clear hb Q1 B1 K1
  obtain ⟨lg, hlg⟩ : ∃ lg, Tx.szLeft Lf xt.size = lg := ⟨_, rfl⟩
  rw [hlg]
  clear hlg hL1 hL
  by_cases hneg2 : lg < 0
  ·
    go_wp2
    go_ret
    exact ⟨rfl, K2.out⟩
  have cT : Hid (∀ (w' : World), Tx.InnO w' w'.heap.size M nm A n zs ss → Calls Tryz.prog 7 #[.agg #[.slice M nm cm, .int .i64 s, .slice A n cap]] w' fun e w'' => ∃ z : Tx.InnT, e = .returned (.agg #[.slice z.MA nm z.mc, .int .i64 s, .slice z.A n z.c]) ∧ Tx.HeldI w'' w'.heap.size (z.inn nm n) zs ss ∧ Below w'.heap.size w' w'') := fun w' hE => (Tx.toInn_any M nm cm zs s A n cap ss w' hE hnm hn HLL.out).mono fun e w'' ⟨⟨a1, a2, a3, a4, a5, a6, a7⟩, he, e1, e2, m, b1⟩ => by
    obtain rfl : nm = a2 := e1.symm
    obtain rfl : n = a5 := e2.symm
    exact ⟨⟨a1, a3, a4, a6, a7⟩, he, m, b1⟩
  have hsm := Tx.hand_small (zs := zs) (t := s) k ⟨⟨xu, xs, xh, xa⟩, xn, xt, xp⟩ HLL.out
  have hzl := E.out.mem.1
  obtain ⟨zo, hzo⟩ : ∃ x, Tx.handZ zs s ss = x := ⟨_, rfl⟩
  obtain ⟨lo, hlo⟩ : ∃ x, Tx.handL zs s ss k ⟨⟨xu, xs, xh, xa⟩, xn, xt, xp⟩ = x := ⟨_, rfl⟩
  obtain ⟨so, hso⟩ : ∃ x, Tx.handT zs s ss = x := ⟨_, rfl⟩
  obtain ⟨y, hy⟩ : ∃ x, Tx.handC zs s ss k ⟨⟨xu, xs, xh, xa⟩, xn, xt, xp⟩ = x := ⟨_, rfl⟩
  rw [hzo, hlo] at hsm
  obtain ⟨mo, hmo⟩ : ∃ x, zo.length = x := ⟨_, rfl⟩
  obtain ⟨no, hno⟩ : ∃ x, lo.length = x := ⟨_, rfl⟩
  have hmo2 : mo ≤ 1048576 := by omega
  have hno2 : no ≤ 1048576 := by omega
  have HLO := Lib.hid hsm.2.2
  have hyy : (y != y) = false := by simp
  clear hsm
  have cB : Hid (∀ (w' : World), Calls Tryz.prog 8 #[.agg #[.int .i64 xu, .int .i64 xs, .int .i64 xh, .int .i64 xa, .int .i64 xn, .string xt, .bool xp]] w' fun e w'' => e = .returned (.agg #[.int .i64 xu, .int .i64 xs, .int .i64 xh, .int .i64 xa, .int .i64 xn, .string xt, .bool xp]) ∧ Below w'.heap.size w' w'') := fun w' => Tx.toBox_any ⟨⟨xu, xs, xh, xa⟩, xn, xt, xp⟩ w'
  have cS : Hid (∀ (w' : World) (B : Nat) (z : Tx.InnT), Tx.HeldI w' B (z.inn nm n) zs ss → Calls Tryz.prog 6 #[.agg #[.slice z.MA nm z.mc, .int .i64 s, .slice z.A n z.c], .int .i64 k, .agg #[.int .i64 xu, .int .i64 xs, .int .i64 xh, .int .i64 xa, .int .i64 xn, .string xt, .bool xp]] w' fun e w'' => ∃ z2 : Tx.InnT, e = .returned (.tuple #[.agg #[.slice z2.MA mo z2.mc, .int .i64 so, .slice z2.A no z2.c], .int .i64 y]) ∧ Tx.HeldI w'' w'.heap.size (z2.inn mo no) zo lo ∧ Below w'.heap.size w' w'') := fun w' B z hE => by
    have h1 := Tx.Hand_spec _ nm z.mc zs s _ n z.c ss k ⟨⟨xu, xs, xh, xa⟩, xn, xt, xp⟩ w' hE.reads (Tx.nil_cap hE.mem) hnm hn HLL.out
    rw [hzo, hlo, hso, hy] at h1
    exact h1.mono fun e w'' ⟨⟨a1, a2, a3, a4, a5, a6, a7⟩, he, m, b1⟩ => by
      obtain rfl : mo = a2 := hmo.symm.trans m.mem.len
      obtain rfl : no = a5 := hno.symm.trans m.seats.len2
      exact ⟨⟨a1, a3, a4, a6, a7⟩, he, m, b1⟩
  have cI : Hid (∀ (w' : World) (B : Nat) (z : Tx.InnT), Tx.HeldI w' B (z.inn nm n) zs ss → Tx.Tab w' → Calls Tryz.prog 9 #[.agg #[.slice z.MA nm z.mc, .int .i64 s, .slice z.A n z.c], .int .i64 k, .agg #[.int .i64 xu, .int .i64 xs, .int .i64 xh, .int .i64 xa, .int .i64 xn, .string xt, .bool xp]] w' fun e w'' => ∃ z2 : Tx.InnT, e = .returned (.tuple #[.agg #[.slice z2.MA mo z2.mc, .int .i64 so, .slice z2.A no z2.c], .int .i64 y]) ∧ Tx.HeldI w'' w'.heap.size (z2.inn mo no) zo lo ∧ Below w'.heap.size w' w'') := fun w' B z hE hT => by
    have h1 := Tx.Hand_impl _ nm z.mc zs s _ n z.c ss k ⟨⟨xu, xs, xh, xa⟩, xn, xt, xp⟩ w' hE.reads (Tx.nil_cap hE.mem) HI64.out hnm hn HLL.out hT
    rw [hzo, hlo, hso, hy] at h1
    exact h1.mono fun e w'' ⟨⟨a1, a2, a3, a4, a5, a6, a7⟩, he, m, b1⟩ => by
      obtain rfl : mo = a2 := hmo.symm.trans m.mem.len
      obtain rfl : no = a5 := hno.symm.trans m.seats.len2
      exact ⟨⟨a1, a3, a4, a6, a7⟩, he, m, b1⟩
  clear hzo hlo hso hy hsl HI64
  go_wp2
  refine Tx.wp_region_own (W := w2) [] (fun _ => True) Tx.stays_true trivial [0, 1, 0, 0, 1, 1, 0, 0, 0, 2, 3, 0] (by kernel_rfl) (by kernel_rfl) (by kernel_rfl) ?_
  have rQ : Hid (∀ q : Tx.In (Tx.plainEnv w2 []), q.w.heap[w.heap.size]? = some (.cells #[.slice M nm cm, .int .i64 s, .slice A n cap] 27)) := fun q => q.block Q2.out (by simp)
  have rB : Hid (∀ q : Tx.In (Tx.plainEnv w2 []), q.w.heap[w.heap.size + 1]? = some (.cells #[.int .i64 xu, .int .i64 xs, .int .i64 xh, .int .i64 xa, .int .i64 xn, .string xt, .bool xp] 31)) := fun q => q.block B2.out (by simp)
  refine Tx.wpO_load_row rfl 27 _ rfl (w.heap.size) rfl 27 _ (0, 0) _ rQ.out Tryz.underlying27 rfl (by kernel_rfl) ?_
  simp only [Act.put, List.setIfInBounds_toArray, List.set_cons_succ, List.set_cons_zero]
  refine Tx.wpO_callx (f := 7) (args := #[.agg #[.slice M nm cm, .int .i64 s, .slice A n cap]]) (α := Tx.InnT) (fun z => .agg #[.slice z.MA nm z.mc, .int .i64 s, .slice z.A n z.c]) (fun z => z.own) (fun z w' => Tx.HeldI w' w2.heap.size (z.inn nm n) zs ss) rfl (fun w' => by simp [go_sem]) (fun z w1 w2 hw h b => h.on b) (fun G => ⟨.nil, fun k hk => by cases hk⟩) (fun w' hw hF => ?_) (fun t hgy => ?_)
  · have kb := Tx.kept_below hw
    have kk := kb.size
    exact (cT.out w' ((E.out.below (K2.out.trans (kb.mono K2.out.size))).mono (Nat.le_trans K2.out.size kb.size))).mono fun e w'' ⟨z, he, m, b1⟩ => ⟨z, he, m.mono kb.size, b1, fun k hk => m.foot (Tx.InnT.foot.1 hk)⟩
  obtain ⟨tM, tc, tA, tk, th⟩ := t
  dsimp only
  simp only [Act.put, List.setIfInBounds_toArray, List.set_cons_succ, List.set_cons_zero]
  refine Tx.wpO_quiet 1 rfl (by kernel_rfl) ?_
  simp only [List.take, List.drop]
  repeat (go_big_quiet_step (fail))
  refine wpQuiet_nil ?_
  refine Tx.wpO_load_row rfl 31 _ rfl (w.heap.size + 1) rfl 31 _ (0, 0) _ rB.out Tryz.underlying31 rfl (by kernel_rfl) ?_
  simp only [Act.put, List.setIfInBounds_toArray, List.set_cons_succ, List.set_cons_zero]
  refine Tx.wpO_call (f := 8) (args := #[.agg #[.int .i64 xu, .int .i64 xs, .int .i64 xh, .int .i64 xa, .int .i64 xn, .string xt, .bool xp]]) (.agg #[.int .i64 xu, .int .i64 xs, .int .i64 xh, .int .i64 xa, .int .i64 xn, .string xt, .bool xp]) rfl (fun w' => by simp [go_sem]) (fun w' hC _ => cB.out _) ?_
  simp only [Act.put, List.setIfInBounds_toArray, List.set_cons_succ, List.set_cons_zero]
  have hKWp := K2.out.size
  refine Tx.wpO_callx (f := 6) (args := #[.agg #[.slice tM nm tc, .int .i64 s, .slice tA n tk], .int .i64 k, .agg #[.int .i64 xu, .int .i64 xs, .int .i64 xh, .int .i64 xa, .int .i64 xn, .string xt, .bool xp]]) (α := Tx.InnT) (fun z => .tuple #[.agg #[.slice z.MA mo z.mc, .int .i64 so, .slice z.A no z.c], .int .i64 y]) (fun z => z.own) (fun z w' => Tx.HeldI w' w2.heap.size (z.inn mo no) zo lo) rfl (fun w' => by simp [go_sem]) (fun z w1 w2 hw h b => h.on b) (fun G => ⟨.nil, fun k hk => by cases hk⟩) (fun w' hw hF => ?_) (fun z hz => ?_)
  · exact (cS.out w' _ ⟨tM, tc, tA, tk, th⟩ hF.2).mono fun e w'' ⟨z, he, m, b1⟩ => ⟨z, he, m.mono (Tx.kept_below hw).size, b1, fun k hk => m.foot (Tx.InnT.foot.1 hk)⟩
  obtain ⟨pM, pc, pA, pk, ph⟩ := z
  dsimp only
  simp only [Act.put, List.setIfInBounds_toArray, List.set_cons_succ, List.set_cons_zero]
  refine Tx.wpO_quiet 3 rfl (by kernel_rfl) ?_
  simp only [List.take, List.drop]
  repeat (go_big_quiet_step (fail))
  refine wpQuiet_nil ?_
  refine Tx.wpO_alloc (.cells #[.slice none 0 0, .int .i64 0, .slice none 0 0] 37) rfl (fun w' => by simp [go_sem]) fun gGW mg hng => ?_
  have hgGW : w2.heap.size ≤ gGW := mg
  have hneP : ∀ k, Tx.FootI (Tx.InnT.inn ⟨pM, pc, pA, pk, ph⟩ mo no) k → k ≠ gGW := fun k e e2 => hng (by subst e2; exact List.mem_append_left _ (Tx.InnT.foot.2 e))
  simp only [Act.put, List.setIfInBounds_toArray, List.set_cons_succ, List.set_cons_zero]
  refine Tx.wpO_store (g := gGW) (t := 37) (old := #[.slice none 0 0, .int .i64 0, .slice none 0 0]) (fun w' => Tx.HeldI w' w2.heap.size (Tx.InnT.inn ⟨pM, pc, pA, pk, ph⟩ mo no) zo lo) #[.slice pM mo pc, .int .i64 so, .slice pA no pk] rfl rfl rfl rfl (Tx.Env.own _ mg) (by kernel_rfl) rfl rfl (fun w' h => ⟨h.1.2, h.2⟩) (fun w1 w2 hw h b => h.on b) (fun w1 w2 hw h => h.heap' (fun t e => hw t (h.foot e).2 (hneP t e))) ?_
  simp only [Act.put]
  refine Tx.wpO_quiet 1 rfl (by kernel_rfl) ?_
  simp only [List.take, List.drop]
  repeat (go_big_quiet_step (fail))
  refine wpQuiet_nil ?_
  refine Tx.wpO_nil ?_
  rintro w3 hb' ⟨hM, hG⟩
  have hb := Tx.kept_below hb'
  have hlP : ∀ t, Tx.FootI (Tx.InnT.inn ⟨pM, pc, pA, pk, ph⟩ mo no) t → w2.heap.size ≤ t ∧ t < w3.heap.size := fun t e => hM.foot e
  have ltGW := Tx.blk_in hG
  have hsz3 := hb.size
  have Q3 := Lib.hid (Tx.blk_on hb Q2.out)
  have B3 := Lib.hid (Tx.blk_on hb B2.out)
  have K3 := Lib.hid (K2.out.trans (hb.mono K2.out.size))
  clear hb hb' rQ rB Q2 B2 K2
  have GW3 := Lib.hid hG
  have P3 := Lib.hid hM
  clear hG hM
  clear hgy
  go_wp2_with (refine wpList_load_row rfl 27 _ rfl (w.heap.size) rfl 27 _ (0, 0) _ Q3.out Tryz.underlying27 rfl (by kernel_rfl) ?_)
  refine (cT.out _ ((E.out.below K3.out).mono K3.out.size)).mono ?_
  rintro e w4 ⟨⟨zM, zc, zA, zk, zh⟩, rfl, hcz, hb⟩
  have hlZ : ∀ t, Tx.FootI (Tx.InnT.inn ⟨zM, zc, zA, zk, zh⟩ nm n) t → w3.heap.size ≤ t ∧ t < w4.heap.size := fun t e => hcz.foot e
  have hsz4 := hb.size
  have Q4 := Lib.hid (Tx.blk_on hb Q3.out)
  have B4 := Lib.hid (Tx.blk_on hb B3.out)
  have GW4 := Lib.hid (Tx.blk_on hb GW3.out)
  have P4 := Lib.hid (P3.out.on hb)
  have K4 := Lib.hid (K3.out.trans (hb.mono K3.out.size))
  clear hb Q3 B3 GW3 K3 P3
  have Z4 := Lib.hid hcz
  clear hcz
  obtain ⟨V5, hV5⟩ : ∃ V, w4.alloc (.cells #[.slice none 0 0, .int .i64 0, .slice none 0 0] 37) = V := ⟨_, rfl⟩
  have ltV5Q : w.heap.size < w4.heap.size := Tx.blk_in Q4.out
  have ltV5B : w.heap.size + 1 < w4.heap.size := Tx.blk_in B4.out
  have ltV5GW : gGW < w4.heap.size := Tx.blk_in GW4.out
  have Q5 : Hid (V5.heap[w.heap.size]? = some (.cells #[.slice M nm cm, .int .i64 s, .slice A n cap] 27)) := by rw [← hV5]; exact Tx.alloc_blk Q4.out
  have B5 : Hid (V5.heap[w.heap.size + 1]? = some (.cells #[.int .i64 xu, .int .i64 xs, .int .i64 xh, .int .i64 xa, .int .i64 xn, .string xt, .bool xp] 31)) := by rw [← hV5]; exact Tx.alloc_blk B4.out
  have GW5 : Hid (V5.heap[gGW]? = some (.cells #[.slice pM mo pc, .int .i64 so, .slice pA no pk] 37)) := by rw [← hV5]; exact Tx.alloc_blk GW4.out
  have hb : Below w4.heap.size w4 V5 := by rw [← hV5]; exact (Below.refl _ w4).alloc (Nat.le_refl _) _
  have P5 := Lib.hid (P4.out.on hb)
  have Z5 := Lib.hid (Z4.out.on hb)
  have K5 := Lib.hid (K4.out.trans (hb.mono K4.out.size))
  have XB5 : Hid (V5.heap[w4.heap.size]? = some (.cells #[.slice none 0 0, .int .i64 0, .slice none 0 0] 37)) := by rw [← hV5]; exact Tx.heap1 w4 _
  have lbV5 : w.heap.size ≤ w4.heap.size := K4.out.size
  clear hb Q4 B4 GW4 K4 P4 Z4
  have zaV5 : V5.heap.size = w4.heap.size + 1 := by rw [← hV5]; simp
  have Q6 : Hid ((V5.setRow w4.heap.size #[.slice zM nm zc, .int .i64 s, .slice zA n zk]).heap[w.heap.size]? = some (.cells #[.slice M nm cm, .int .i64 s, .slice A n cap] 27)) := (setRow_other _ _ _ _ (by omega)).trans Q5.out
  have B6 : Hid ((V5.setRow w4.heap.size #[.slice zM nm zc, .int .i64 s, .slice zA n zk]).heap[w.heap.size + 1]? = some (.cells #[.int .i64 xu, .int .i64 xs, .int .i64 xh, .int .i64 xa, .int .i64 xn, .string xt, .bool xp] 31)) := (setRow_other _ _ _ _ (by omega)).trans B5.out
  have GW6 : Hid ((V5.setRow w4.heap.size #[.slice zM nm zc, .int .i64 s, .slice zA n zk]).heap[gGW]? = some (.cells #[.slice pM mo pc, .int .i64 so, .slice pA no pk] 37)) := (setRow_other _ _ _ _ (by omega)).trans GW5.out
  have XB6 : Hid ((V5.setRow w4.heap.size #[.slice zM nm zc, .int .i64 s, .slice zA n zk]).heap[w4.heap.size]? = some (.cells #[.slice zM nm zc, .int .i64 s, .slice zA n zk] 37)) := setRow_heap _ _ _ _ _ _ XB5.out
  have K6 : Hid (Below w.heap.size w (V5.setRow w4.heap.size #[.slice zM nm zc, .int .i64 s, .slice zA n zk])) := below_setRow K5.out (by omega) _
  have P6 : Hid (Tx.HeldI (V5.setRow w4.heap.size #[.slice zM nm zc, .int .i64 s, .slice zA n zk]) w2.heap.size (Tx.InnT.inn ⟨pM, pc, pA, pk, ph⟩ mo no) zo lo) := P5.out.heap (fun t e => setRow_other _ _ _ _ (by have := hlP t e; omega)) (Nat.le_of_eq (size_setRow _ _ _).symm)
  have Z6 : Hid (Tx.HeldI (V5.setRow w4.heap.size #[.slice zM nm zc, .int .i64 s, .slice zA n zk]) w3.heap.size (Tx.InnT.inn ⟨zM, zc, zA, zk, zh⟩ nm n) zs ss) := Z5.out.heap (fun t e => setRow_other _ _ _ _ (by have := hlZ t e; omega)) (Nat.le_of_eq (size_setRow _ _ _).symm)
  clear P5 Z5
  have zz6 := size_setRow V5 (w4.heap.size) #[.slice zM nm zc, .int .i64 s, .slice zA n zk]
  go_wp2_with (refine wpList_store_row rfl 37 _ _ rfl (w4.heap.size) #[.slice zM nm zc, .int .i64 s, .slice zA n zk] rfl rfl 37 _ XB5.out (by kernel_rfl) rfl (by simp [Value.oneCell']) ?_)
  clear hV5 Q5 B5 GW5 XB5 K5
  generalize V5.setRow w4.heap.size #[.slice zM nm zc, .int .i64 s, .slice zA n zk] = S6 at Q6 B6 GW6 XB6 P6 Z6 K6 zz6 ⊢
  refine Tx.wp_region_own (W := S6) [] (fun _ => True) Tx.stays_true trivial [0, 0, 0, 1, 1, 0, 0, 0, 2, 3, 0] (by kernel_rfl) (by kernel_rfl) (by kernel_rfl) ?_
  have rXB : Hid (∀ q : Tx.In (Tx.plainEnv S6 []), q.w.heap[w4.heap.size]? = some (.cells #[.slice zM nm zc, .int .i64 s, .slice zA n zk] 37)) := fun q => q.block XB6.out (by simp)
  have rB : Hid (∀ q : Tx.In (Tx.plainEnv S6 []), q.w.heap[w.heap.size + 1]? = some (.cells #[.int .i64 xu, .int .i64 xs, .int .i64 xh, .int .i64 xa, .int .i64 xn, .string xt, .bool xp] 31)) := fun q => q.block B6.out (by simp)
  refine Tx.wpO_load_row rfl 37 _ rfl (w4.heap.size) rfl 37 _ (0, 0) _ rXB.out Tryz.underlying37 rfl (by kernel_rfl) ?_
  simp only [Act.put, List.setIfInBounds_toArray, List.set_cons_succ, List.set_cons_zero]
  refine Tx.wpO_quiet 1 rfl (by kernel_rfl) ?_
  simp only [List.take, List.drop]
  repeat (go_big_quiet_step (fail))
  refine wpQuiet_nil ?_
  refine Tx.wpO_load_row rfl 31 _ rfl (w.heap.size + 1) rfl 31 _ (0, 0) _ rB.out Tryz.underlying31 rfl (by kernel_rfl) ?_
  simp only [Act.put, List.setIfInBounds_toArray, List.set_cons_succ, List.set_cons_zero]
  refine Tx.wpO_call (f := 8) (args := #[.agg #[.int .i64 xu, .int .i64 xs, .int .i64 xh, .int .i64 xa, .int .i64 xn, .string xt, .bool xp]]) (.agg #[.int .i64 xu, .int .i64 xs, .int .i64 xh, .int .i64 xa, .int .i64 xn, .string xt, .bool xp]) rfl (fun w' => by simp [go_sem]) (fun w' hC _ => cB.out _) ?_
  simp only [Act.put, List.setIfInBounds_toArray, List.set_cons_succ, List.set_cons_zero]
  have hKWo := K6.out.size
  refine Tx.wpO_callx (f := 9) (args := #[.agg #[.slice zM nm zc, .int .i64 s, .slice zA n zk], .int .i64 k, .agg #[.int .i64 xu, .int .i64 xs, .int .i64 xh, .int .i64 xa, .int .i64 xn, .string xt, .bool xp]]) (α := Tx.InnT) (fun z => .tuple #[.agg #[.slice z.MA mo z.mc, .int .i64 so, .slice z.A no z.c], .int .i64 y]) (fun z => z.own) (fun z w' => Tx.HeldI w' S6.heap.size (z.inn mo no) zo lo) rfl (fun w' => by simp [go_sem]) (fun z w1 w2 hw h b => h.on b) (fun G => ⟨.nil, fun k hk => by cases hk⟩) (fun w' hw hF => ?_) (fun z hz => ?_)
  · exact (cI.out w' _ ⟨zM, zc, zA, zk, zh⟩ (Z6.out.on (Tx.kept_below hw)) (HTB.out.on (K6.out.trans ((Tx.kept_below hw).mono K6.out.size)))).mono fun e w'' ⟨z, he, m, b1⟩ => ⟨z, he, m.mono (Tx.kept_below hw).size, b1, fun k hk => m.foot (Tx.InnT.foot.1 hk)⟩
  obtain ⟨oM, oc, oA, ok, oh⟩ := z
  dsimp only
  simp only [Act.put, List.setIfInBounds_toArray, List.set_cons_succ, List.set_cons_zero]
  refine Tx.wpO_quiet 3 rfl (by kernel_rfl) ?_
  simp only [List.take, List.drop]
  repeat (go_big_quiet_step (fail))
  refine wpQuiet_nil ?_
  refine Tx.wpO_alloc (.cells #[.slice none 0 0, .int .i64 0, .slice none 0 0] 37) rfl (fun w' => by simp [go_sem]) fun gGG mg hng => ?_
  have hgGG : S6.heap.size ≤ gGG := mg
  have hneO : ∀ k, Tx.FootI (Tx.InnT.inn ⟨oM, oc, oA, ok, oh⟩ mo no) k → k ≠ gGG := fun k e e2 => hng (by subst e2; exact List.mem_append_left _ (Tx.InnT.foot.2 e))
  simp only [Act.put, List.setIfInBounds_toArray, List.set_cons_succ, List.set_cons_zero]
  refine Tx.wpO_store (g := gGG) (t := 37) (old := #[.slice none 0 0, .int .i64 0, .slice none 0 0]) (fun w' => Tx.HeldI w' S6.heap.size (Tx.InnT.inn ⟨oM, oc, oA, ok, oh⟩ mo no) zo lo) #[.slice oM mo oc, .int .i64 so, .slice oA no ok] rfl rfl rfl rfl (Tx.Env.own _ mg) (by kernel_rfl) rfl rfl (fun w' h => ⟨h.1.2, h.2⟩) (fun w1 w2 hw h b => h.on b) (fun w1 w2 hw h => h.heap' (fun t e => hw t (h.foot e).2 (hneO t e))) ?_
  simp only [Act.put]
  refine Tx.wpO_quiet 1 rfl (by kernel_rfl) ?_
  simp only [List.take, List.drop]
  repeat (go_big_quiet_step (fail))
  refine wpQuiet_nil ?_
  refine Tx.wpO_nil ?_
  rintro w7 hb' ⟨hM, hG⟩
  have hb := Tx.kept_below hb'
  have hlO : ∀ t, Tx.FootI (Tx.InnT.inn ⟨oM, oc, oA, ok, oh⟩ mo no) t → S6.heap.size ≤ t ∧ t < w7.heap.size := fun t e => hM.foot e
  have ltGG := Tx.blk_in hG
  have hsz5 := hb.size
  have Q7 := Lib.hid (Tx.blk_on hb Q6.out)
  have B7 := Lib.hid (Tx.blk_on hb B6.out)
  have GW7 := Lib.hid (Tx.blk_on hb GW6.out)
  have XB7 := Lib.hid (Tx.blk_on hb XB6.out)
  have P7 := Lib.hid (P6.out.on hb)
  have Z7 := Lib.hid (Z6.out.on hb)
  have K7 := Lib.hid (K6.out.trans (hb.mono K6.out.size))
  clear hb hb' rXB rB Q6 B6 GW6 XB6 K6 P6 Z6
  have GG7 := Lib.hid hG
  have O7 := Lib.hid hM
  clear hG hM
  go_wp2_with (first | (refine wpList_load_row rfl 37 _ rfl (gGG) rfl 37 _ (0, 0) _ GG7.out Tryz.underlying37 rfl (by kernel_rfl) ?_) | (refine wpList_load_row rfl 37 _ rfl (gGW) rfl 37 _ (0, 0) _ GW7.out Tryz.underlying37 rfl (by kernel_rfl) ?_))
  refine (Tx.eqInn_same oM pM mo oc pc zo so oA pA no ok pk lo _ O7.out.reads P7.out.reads hmo2 hno2 HLO.out).mono ?_
  rintro e w8 ⟨rfl, hb⟩
  have hsz6 := hb.size
  have Q8 := Lib.hid (Tx.blk_on hb Q7.out)
  have B8 := Lib.hid (Tx.blk_on hb B7.out)
  have GW8 := Lib.hid (Tx.blk_on hb GW7.out)
  have XB8 := Lib.hid (Tx.blk_on hb XB7.out)
  have GG8 := Lib.hid (Tx.blk_on hb GG7.out)
  have P8 := Lib.hid (P7.out.on hb)
  have Z8 := Lib.hid (Z7.out.on hb)
  have O8 := Lib.hid (O7.out.on hb)
  have K8 := Lib.hid (K7.out.trans (hb.mono K7.out.size))
  clear hb Q7 B7 GW7 XB7 GG7 K7 P7 Z7 O7
  go_wp2
  refine Tx.wp_region_own (W := w8) [] (fun _ => True) Tx.stays_true trivial [0, 0, 1, 1, 0] (by kernel_rfl) (by kernel_rfl) (by kernel_rfl) ?_
  have rXB : Hid (∀ q : Tx.In (Tx.plainEnv w8 []), q.w.heap[w4.heap.size]? = some (.cells #[.slice zM nm zc, .int .i64 s, .slice zA n zk] 37)) := fun q => q.block XB8.out (by simp)
  have rQ : Hid (∀ q : Tx.In (Tx.plainEnv w8 []), q.w.heap[w.heap.size]? = some (.cells #[.slice M nm cm, .int .i64 s, .slice A n cap] 27)) := fun q => q.block Q8.out (by simp)
  refine Tx.wpO_load_row rfl 37 _ rfl (w4.heap.size) rfl 37 _ (0, 0) _ rXB.out Tryz.underlying37 rfl (by kernel_rfl) ?_
  simp only [Act.put, List.setIfInBounds_toArray, List.set_cons_succ, List.set_cons_zero]
  refine Tx.wpO_load_row rfl 27 _ rfl (w.heap.size) rfl 27 _ (0, 0) _ rQ.out Tryz.underlying27 rfl (by kernel_rfl) ?_
  simp only [Act.put, List.setIfInBounds_toArray, List.set_cons_succ, List.set_cons_zero]
  refine Tx.wpO_callx (f := 7) (args := #[.agg #[.slice M nm cm, .int .i64 s, .slice A n cap]]) (α := Tx.InnT) (fun z => .agg #[.slice z.MA nm z.mc, .int .i64 s, .slice z.A n z.c]) (fun z => z.own) (fun z w' => Tx.HeldI w' w8.heap.size (z.inn nm n) zs ss) rfl (fun w' => by simp [go_sem]) (fun z w1 w2 hw h b => h.on b) (fun G => ⟨.nil, fun k hk => by cases hk⟩) (fun w' hw hF => ?_) (fun y hgy => ?_)
  · have kb := Tx.kept_below hw
    have kk := kb.size
    exact (cT.out w' ((E.out.below (K8.out.trans (kb.mono K8.out.size))).mono (Nat.le_trans K8.out.size kb.size))).mono fun e w'' ⟨z, he, m, b1⟩ => ⟨z, he, m.mono kb.size, b1, fun k hk => m.foot (Tx.InnT.foot.1 hk)⟩
  obtain ⟨yM, yc, yA, yk, yh⟩ := y
  dsimp only
  simp only [Act.put, List.setIfInBounds_toArray, List.set_cons_succ, List.set_cons_zero]
  refine Tx.wpO_call (f := 10) (args := #[.agg #[.slice zM nm zc, .int .i64 s, .slice zA n zk], .agg #[.slice yM nm yc, .int .i64 s, .slice yA n yk]]) (.bool true) rfl (fun w' => by simp [go_sem]) (fun w' hC hF => Tx.eqInn_same _ _ nm _ _ zs s _ _ n _ _ ss w' (Z8.out.on (Tx.kept_below hC)).reads hF.2.reads hnm hn HLL.out) ?_
  simp only [Act.put, List.setIfInBounds_toArray, List.set_cons_succ, List.set_cons_zero]
  refine Tx.wpO_quiet 1 rfl (by kernel_rfl) ?_
  simp only [List.take, List.drop]
  repeat (go_big_quiet_step (fail))
  refine wpQuiet_nil ?_
  clear hgy
  refine Tx.wpO_nil ?_
  rintro w9 hb' _
  have hb := Tx.kept_below hb'
  have hsz7 := hb.size
  have Q9 := Lib.hid (Tx.blk_on hb Q8.out)
  have B9 := Lib.hid (Tx.blk_on hb B8.out)
  have GW9 := Lib.hid (Tx.blk_on hb GW8.out)
  have XB9 := Lib.hid (Tx.blk_on hb XB8.out)
  have GG9 := Lib.hid (Tx.blk_on hb GG8.out)
  have P9 := Lib.hid (P8.out.on hb)
  have Z9 := Lib.hid (Z8.out.on hb)
  have O9 := Lib.hid (O8.out.on hb)
  have K9 := Lib.hid (K8.out.trans (hb.mono K8.out.size))
  clear rXB rQ hb hb' Q8 B8 GW8 XB8 GG8 K8 P8 Z8 O8
  go_wp2_with (refine wpList_load_row rfl 37 _ rfl (w4.heap.size) rfl 37 _ (0, 0) _ XB9.out Tryz.underlying37 rfl (by kernel_rfl) ?_)
  have hxs := Z9.out.seats.small HLL.out
  have cm := Tx.markInn_held zM nm zc zs s zA n zk 1 _ zh ss _ Z9.out (by omega) (by omega) hnm hn hxs
  refine cm.mono ?_
  rintro e wm ⟨rfl, hF, gr⟩
  have hsg := gr.size
  clear hF cm hxs
  clear Z9
  have Q10 : Hid (wm.heap[w.heap.size]? = some (.cells #[.slice M nm cm, .int .i64 s, .slice A n cap] 27)) := (gr.block _ (Tx.blk_in Q9.out) (fun e => by have := hlZ _ e; omega)).trans Q9.out
  have B10 : Hid (wm.heap[w.heap.size + 1]? = some (.cells #[.int .i64 xu, .int .i64 xs, .int .i64 xh, .int .i64 xa, .int .i64 xn, .string xt, .bool xp] 31)) := (gr.block _ (Tx.blk_in B9.out) (fun e => by have := hlZ _ e; omega)).trans B9.out
  have GW10 : Hid (wm.heap[gGW]? = some (.cells #[.slice pM mo pc, .int .i64 so, .slice pA no pk] 37)) := (gr.block _ (Tx.blk_in GW9.out) (fun e => by have := hlZ _ e; omega)).trans GW9.out
  have XB10 : Hid (wm.heap[w4.heap.size]? = some (.cells #[.slice zM nm zc, .int .i64 s, .slice zA n zk] 37)) := (gr.block _ (Tx.blk_in XB9.out) (fun e => by have := hlZ _ e; omega)).trans XB9.out
  have GG10 : Hid (wm.heap[gGG]? = some (.cells #[.slice oM mo oc, .int .i64 so, .slice oA no ok] 37)) := (gr.block _ (Tx.blk_in GG9.out) (fun e => by have := hlZ _ e; omega)).trans GG9.out
  have P10 : Hid (Tx.HeldI wm w2.heap.size (Tx.InnT.inn ⟨pM, pc, pA, pk, ph⟩ mo no) zo lo) := P9.out.heap (fun t e => gr.block _ (by have := hlP t e; omega) (fun e2 => by have h1 := hlP t e; have h2 := hlZ t e2; omega)) gr.size
  have O10 : Hid (Tx.HeldI wm S6.heap.size (Tx.InnT.inn ⟨oM, oc, oA, ok, oh⟩ mo no) zo lo) := O9.out.heap (fun t e => gr.block _ (by have := hlO t e; omega) (fun e2 => by have h1 := hlO t e; have h2 := hlZ t e2; omega)) gr.size
  have K10 : Hid (Below w.heap.size w wm) := gr.below K9.out K9.out.size (fun j e => by have := hlZ j e; omega)
  clear Q9 B9 GW9 XB9 GG9 P9 O9 K9
  clear gr
  obtain ⟨m1, hm1⟩ : ∃ m, 1 + nm + Tx.marksN zh = m := ⟨_, rfl⟩
  rw [hm1]
  have hm0 : ¬ (m1 : Int) < 0 := by omega
  clear hm1
  go_wp2_with (first | (refine Tx.wpList_load_wanted rfl 37 _ rfl (gGG) rfl 37 _ (0, 0) _ GG10.out Tryz.underlying37 rfl (by kernel_rfl) ?_) | (refine Tx.wpList_load_wanted rfl 37 _ rfl (gGW) rfl 37 _ (0, 0) _ GW10.out Tryz.underlying37 rfl (by kernel_rfl) ?_))
  refine (Tx.eqInn_same oM pM mo oc pc zo so oA pA no ok pk lo _ O10.out.reads P10.out.reads hmo2 hno2 HLO.out).mono ?_
  rintro e w21 ⟨rfl, hb⟩
  have hsz8 := hb.size
  have Q11 := Lib.hid (Tx.blk_on hb Q10.out)
  have B11 := Lib.hid (Tx.blk_on hb B10.out)
  have GW11 := Lib.hid (Tx.blk_on hb GW10.out)
  have XB11 := Lib.hid (Tx.blk_on hb XB10.out)
  have GG11 := Lib.hid (Tx.blk_on hb GG10.out)
  have P11 := Lib.hid (P10.out.on hb)
  have O11 := Lib.hid (O10.out.on hb)
  have K11 := Lib.hid (K10.out.trans (hb.mono K10.out.size))
  clear hb Q10 B10 GW10 XB10 GG10 K10 P10 O10
  go_wp2_with (refine wpList_load_row rfl 37 _ rfl (gGG) rfl 37 _ (0, 0) _ GG11.out Tryz.underlying37 rfl (by kernel_rfl) ?_)
  have hos : Hid (∀ x ∈ oh, x.n ≤ 1048576) := O11.out.seats.small HLO.out
  have hol := O11.out.seats.len
  refine (Tx.markInn_held oM mo oc zo so oA no ok 1 _ oh lo _ O11.out (by omega) (by omega) hmo2 hno2 hos.out).mono ?_
  rintro e wn ⟨rfl, hF, gr⟩
  have hsg2 := gr.size
  clear O11
  have Q12 : Hid (wn.heap[w.heap.size]? = some (.cells #[.slice M nm cm, .int .i64 s, .slice A n cap] 27)) := (gr.block _ (Tx.blk_in Q11.out) (fun e => by have := hlO _ e; omega)).trans Q11.out
  have B12 : Hid (wn.heap[w.heap.size + 1]? = some (.cells #[.int .i64 xu, .int .i64 xs, .int .i64 xh, .int .i64 xa, .int .i64 xn, .string xt, .bool xp] 31)) := (gr.block _ (Tx.blk_in B11.out) (fun e => by have := hlO _ e; omega)).trans B11.out
  have GW12 : Hid (wn.heap[gGW]? = some (.cells #[.slice pM mo pc, .int .i64 so, .slice pA no pk] 37)) := (gr.block _ (Tx.blk_in GW11.out) (fun e => by have := hlO _ e; omega)).trans GW11.out
  have XB12 : Hid (wn.heap[w4.heap.size]? = some (.cells #[.slice zM nm zc, .int .i64 s, .slice zA n zk] 37)) := (gr.block _ (Tx.blk_in XB11.out) (fun e => by have := hlO _ e; omega)).trans XB11.out
  have GG12 : Hid (wn.heap[gGG]? = some (.cells #[.slice oM mo oc, .int .i64 so, .slice oA no ok] 37)) := (gr.block _ (Tx.blk_in GG11.out) (fun e => hneO _ e rfl)).trans GG11.out
  have P12 : Hid (Tx.HeldI wn w2.heap.size (Tx.InnT.inn ⟨pM, pc, pA, pk, ph⟩ mo no) zo lo) := P11.out.heap (fun t e => gr.block _ (by have := hlP t e; omega) (fun e2 => by have h1 := hlP t e; have h2 := hlO t e2; omega)) gr.size
  have K12 : Hid (Below w.heap.size w wn) := gr.below K11.out K11.out.size (fun j e => by have := hlO j e; omega)
  clear Q11 B11 GW11 XB11 GG11 P11 K11
  have F12 := Lib.hid hF
  clear hF gr
  have hlF := hlO
  obtain ⟨m2, hm2⟩ : ∃ m, 1 + mo + Tx.marksN oh = m := ⟨_, rfl⟩
  rw [hm2]
  have hm3 : ¬ (m2 : Int) < 0 := by omega
  have hmm : ((m2 : Int) != (m2 : Int)) = false := by simp
  go_wp2_with (refine wpList_load_row rfl 37 _ rfl (gGG) rfl 37 _ (0, 0) _ GG12.out Tryz.underlying37 rfl (by kernel_rfl) ?_)
  have ch := Tx.heldInn_held oM mo oc so oA no ok 1 _ oh _ F12.out hol (by omega) (by omega) hmo2 hno2 hos.out
  rw [hm2] at ch
  refine (ch).mono ?_
  rintro e w31 ⟨rfl, hb⟩
  clear ch
  have hsz9 := hb.size
  have Q13 := Lib.hid (Tx.blk_on hb Q12.out)
  have B13 := Lib.hid (Tx.blk_on hb B12.out)
  have GW13 := Lib.hid (Tx.blk_on hb GW12.out)
  have XB13 := Lib.hid (Tx.blk_on hb XB12.out)
  have GG13 := Lib.hid (Tx.blk_on hb GG12.out)
  have P13 := Lib.hid (P12.out.on hb)
  have F13 := Lib.hid (F12.out.on hb)
  have K13 := Lib.hid (K12.out.trans (hb.mono K12.out.size))
  clear hb Q12 B12 GW12 XB12 GG12 K12 P12 F12
  go_wp2
  refine Tx.wp_region_own (W := w31) [] (fun _ => True) Tx.stays_true trivial [0, 1, 0, 0, 1, 1, 0, 0, 0, 2, 3, 0] (by kernel_rfl) (by kernel_rfl) (by kernel_rfl) ?_
  have rQ : Hid (∀ q : Tx.In (Tx.plainEnv w31 []), q.w.heap[w.heap.size]? = some (.cells #[.slice M nm cm, .int .i64 s, .slice A n cap] 27)) := fun q => q.block Q13.out (by simp)
  have rB : Hid (∀ q : Tx.In (Tx.plainEnv w31 []), q.w.heap[w.heap.size + 1]? = some (.cells #[.int .i64 xu, .int .i64 xs, .int .i64 xh, .int .i64 xa, .int .i64 xn, .string xt, .bool xp] 31)) := fun q => q.block B13.out (by simp)
  refine Tx.wpO_load_row rfl 27 _ rfl (w.heap.size) rfl 27 _ (0, 0) _ rQ.out Tryz.underlying27 rfl (by kernel_rfl) ?_
  simp only [Act.put, List.setIfInBounds_toArray, List.set_cons_succ, List.set_cons_zero]
  refine Tx.wpO_callx (f := 7) (args := #[.agg #[.slice M nm cm, .int .i64 s, .slice A n cap]]) (α := Tx.InnT) (fun z => .agg #[.slice z.MA nm z.mc, .int .i64 s, .slice z.A n z.c]) (fun z => z.own) (fun z w' => Tx.HeldI w' w31.heap.size (z.inn nm n) zs ss) rfl (fun w' => by simp [go_sem]) (fun z w1 w2 hw h b => h.on b) (fun G => ⟨.nil, fun k hk => by cases hk⟩) (fun w' hw hF => ?_) (fun u hgy => ?_)
  · have kb := Tx.kept_below hw
    have kk := kb.size
    exact (cT.out w' ((E.out.below (K13.out.trans (kb.mono K13.out.size))).mono (Nat.le_trans K13.out.size kb.size))).mono fun e w'' ⟨z, he, m, b1⟩ => ⟨z, he, m.mono kb.size, b1, fun k hk => m.foot (Tx.InnT.foot.1 hk)⟩
  obtain ⟨uM, uc, uA, uk, uh⟩ := u
  dsimp only
  simp only [Act.put, List.setIfInBounds_toArray, List.set_cons_succ, List.set_cons_zero]
  refine Tx.wpO_quiet 1 rfl (by kernel_rfl) ?_
  simp only [List.take, List.drop]
  repeat (go_big_quiet_step (fail))
  refine wpQuiet_nil ?_
  refine Tx.wpO_load_row rfl 31 _ rfl (w.heap.size + 1) rfl 31 _ (0, 0) _ rB.out Tryz.underlying31 rfl (by kernel_rfl) ?_
  simp only [Act.put, List.setIfInBounds_toArray, List.set_cons_succ, List.set_cons_zero]
  refine Tx.wpO_call (f := 8) (args := #[.agg #[.int .i64 xu, .int .i64 xs, .int .i64 xh, .int .i64 xa, .int .i64 xn, .string xt, .bool xp]]) (.agg #[.int .i64 xu, .int .i64 xs, .int .i64 xh, .int .i64 xa, .int .i64 xn, .string xt, .bool xp]) rfl (fun w' => by simp [go_sem]) (fun w' hC _ => cB.out _) ?_
  simp only [Act.put, List.setIfInBounds_toArray, List.set_cons_succ, List.set_cons_zero]
  have hKWj := K13.out.size
  refine Tx.wpO_callx (f := 9) (args := #[.agg #[.slice uM nm uc, .int .i64 s, .slice uA n uk], .int .i64 k, .agg #[.int .i64 xu, .int .i64 xs, .int .i64 xh, .int .i64 xa, .int .i64 xn, .string xt, .bool xp]]) (α := Tx.InnT) (fun z => .tuple #[.agg #[.slice z.MA mo z.mc, .int .i64 so, .slice z.A no z.c], .int .i64 y]) (fun z => z.own) (fun z w' => Tx.HeldI w' w31.heap.size (z.inn mo no) zo lo) rfl (fun w' => by simp [go_sem]) (fun z w1 w2 hw h b => h.on b) (fun G => ⟨.nil, fun k hk => by cases hk⟩) (fun w' hw hF => ?_) (fun z hz => ?_)
  · exact (cI.out w' _ ⟨uM, uc, uA, uk, uh⟩ hF.2 (HTB.out.on (K13.out.trans ((Tx.kept_below hw).mono K13.out.size)))).mono fun e w'' ⟨z, he, m, b1⟩ => ⟨z, he, m.mono (Tx.kept_below hw).size, b1, fun k hk => m.foot (Tx.InnT.foot.1 hk)⟩
  obtain ⟨jM, jc, jA, jk, jh⟩ := z
  dsimp only
  simp only [Act.put, List.setIfInBounds_toArray, List.set_cons_succ, List.set_cons_zero]
  refine Tx.wpO_quiet 3 rfl (by kernel_rfl) ?_
  simp only [List.take, List.drop]
  repeat (go_big_quiet_step (fail))
  refine wpQuiet_nil ?_
  refine Tx.wpO_alloc (.cells #[.slice none 0 0, .int .i64 0, .slice none 0 0] 37) rfl (fun w' => by simp [go_sem]) fun gGH mg hng => ?_
  have hgGH : w31.heap.size ≤ gGH := mg
  have hneJ : ∀ k, Tx.FootI (Tx.InnT.inn ⟨jM, jc, jA, jk, jh⟩ mo no) k → k ≠ gGH := fun k e e2 => hng (by subst e2; exact List.mem_append_left _ (Tx.InnT.foot.2 e))
  simp only [Act.put, List.setIfInBounds_toArray, List.set_cons_succ, List.set_cons_zero]
  refine Tx.wpO_store (g := gGH) (t := 37) (old := #[.slice none 0 0, .int .i64 0, .slice none 0 0]) (fun w' => Tx.HeldI w' w31.heap.size (Tx.InnT.inn ⟨jM, jc, jA, jk, jh⟩ mo no) zo lo) #[.slice jM mo jc, .int .i64 so, .slice jA no jk] rfl rfl rfl rfl (Tx.Env.own _ mg) (by kernel_rfl) rfl rfl (fun w' h => ⟨h.1.2, h.2⟩) (fun w1 w2 hw h b => h.on b) (fun w1 w2 hw h => h.heap' (fun t e => hw t (h.foot e).2 (hneJ t e))) ?_
  simp only [Act.put]
  refine Tx.wpO_quiet 1 rfl (by kernel_rfl) ?_
  simp only [List.take, List.drop]
  repeat (go_big_quiet_step (fail))
  refine wpQuiet_nil ?_
  refine Tx.wpO_nil ?_
  rintro w32 hb' ⟨hM, hG⟩
  have hb := Tx.kept_below hb'
  have hlJ : ∀ t, Tx.FootI (Tx.InnT.inn ⟨jM, jc, jA, jk, jh⟩ mo no) t → w31.heap.size ≤ t ∧ t < w32.heap.size := fun t e => hM.foot e
  have ltGH := Tx.blk_in hG
  have hsz10 := hb.size
  have Q14 := Lib.hid (Tx.blk_on hb Q13.out)
  have B14 := Lib.hid (Tx.blk_on hb B13.out)
  have GW14 := Lib.hid (Tx.blk_on hb GW13.out)
  have XB14 := Lib.hid (Tx.blk_on hb XB13.out)
  have GG14 := Lib.hid (Tx.blk_on hb GG13.out)
  have P14 := Lib.hid (P13.out.on hb)
  have F14 := Lib.hid (F13.out.on hb)
  have K14 := Lib.hid (K13.out.trans (hb.mono K13.out.size))
  clear hb hb' rQ rB Q13 B13 GW13 XB13 GG13 K13 P13 F13
  have GH14 := Lib.hid hG
  have J14 := Lib.hid hM
  clear hG hM
  clear hgy
  go_wp2_with (first | (refine wpList_load_row rfl 37 _ rfl (gGH) rfl 37 _ (0, 0) _ GH14.out Tryz.underlying37 rfl (by kernel_rfl) ?_) | (refine wpList_load_row rfl 37 _ rfl (gGW) rfl 37 _ (0, 0) _ GW14.out Tryz.underlying37 rfl (by kernel_rfl) ?_))
  refine (Tx.eqInn_same jM pM mo jc pc zo so jA pA no jk pk lo _ J14.out.reads P14.out.reads hmo2 hno2 HLO.out).mono ?_
  rintro e w33 ⟨rfl, hb⟩
  have hsz11 := hb.size
  have Q15 := Lib.hid (Tx.blk_on hb Q14.out)
  have B15 := Lib.hid (Tx.blk_on hb B14.out)
  have GW15 := Lib.hid (Tx.blk_on hb GW14.out)
  have XB15 := Lib.hid (Tx.blk_on hb XB14.out)
  have GG15 := Lib.hid (Tx.blk_on hb GG14.out)
  have GH15 := Lib.hid (Tx.blk_on hb GH14.out)
  have P15 := Lib.hid (P14.out.on hb)
  have F15 := Lib.hid (F14.out.on hb)
  have J15 := Lib.hid (J14.out.on hb)
  have K15 := Lib.hid (K14.out.trans (hb.mono K14.out.size))
  clear hb Q14 B14 GW14 XB14 GG14 GH14 K14 P14 F14 J14
  go_wp2_with (refine wpList_load_row rfl 37 _ rfl (gGG) rfl 37 _ (0, 0) _ GG15.out Tryz.underlying37 rfl (by kernel_rfl) ?_)
  have ch := Tx.heldInn_held oM mo oc so oA no ok 1 _ oh _ F15.out hol (by omega) (by omega) hmo2 hno2 hos.out
  rw [hm2] at ch
  refine (ch).mono ?_
  rintro e w34 ⟨rfl, hb⟩
  clear ch
  have hsz12 := hb.size
  have Q16 := Lib.hid (Tx.blk_on hb Q15.out)
  have B16 := Lib.hid (Tx.blk_on hb B15.out)
  have GW16 := Lib.hid (Tx.blk_on hb GW15.out)
  have XB16 := Lib.hid (Tx.blk_on hb XB15.out)
  have GG16 := Lib.hid (Tx.blk_on hb GG15.out)
  have GH16 := Lib.hid (Tx.blk_on hb GH15.out)
  have P16 := Lib.hid (P15.out.on hb)
  have F16 := Lib.hid (F15.out.on hb)
  have J16 := Lib.hid (J15.out.on hb)
  have K16 := Lib.hid (K15.out.trans (hb.mono K15.out.size))
  clear hb Q15 B15 GW15 XB15 GG15 GH15 K15 P15 F15 J15
  go_wp2
  go_ret
  exact ⟨rfl, K16.out⟩

theorem door_met (os : Os) (args : Array Value) : laidMetH Tryz.prog Rows.fnExactHandRow.laid ((Tx.doorWorld os).forCall (fun _ _ => 0) ⟨#[], args, []⟩).memory := by
  rw [MakeChecks.laidMetH_plain _ _ _ (by kernel_rfl)]
  exact laidMet_of_run' 8 (by kernel_rfl) (by kernel_rfl)
theorem tab {W : World} (h : laidMetH Tryz.prog Rows.fnExactHandRow.laid W) : Tx.Tab W := by
  rw [MakeChecks.laidMetH_plain _ _ _ (by kernel_rfl)] at h
  exact Tx.tab_of (laidMet.tail (laidMet.tail h))

theorem own : ownKnob Tryz.prog.godebug = none := by kernel_rfl
theorem laidOut : laidOutB Tryz.prog = true := by kernel_rfl

set_option maxRecDepth 100000 in
theorem lifted (os : Os) (started : os.Started) (H : Type) (enc : TypeId × Value → H) :
    ReturnsInHanded {} Tryz.checked os 3 .any (fun w args => (Rows.fnExactHandSpec.pre enc Tryz.prog Tryz.f3 [] false w args ∧ laidMetH Tryz.prog Rows.fnExactHandRow.laid w) ∧ sizedMet enc Tryz.prog Tryz.f3 (OpenSpec.ofChange Rows.fnExactHandSpec) false w args)
      (Rows.fnExactHandSpec.post enc Tryz.prog Tryz.f3 false true false false) := by
  refine returnsInHanded_of_change_and (C := Tryz.checked) (X := fun w _ => laidMetH Tryz.prog Rows.fnExactHandRow.laid w) (fun _ _ _ hh h => h.of_heap hh) own started (by kernel_rfl) Tryz.func3
    (ChangeSpec.witness_shaped (enc := enc) (C := Tryz.checked) (os := os) (X := fun w _ => laidMetH Tryz.prog Rows.fnExactHandRow.laid w) false (Tx.doorWorld os) #[.agg #[.slice none 0 0, .int .i64 0, .slice none 0 0], .int .i64 0, .agg #[.int .i64 0, .int .i64 0, .int .i64 0, .int .i64 0, .int .i64 0, .string ByteArray.empty, .bool false]] 8 rfl (Tx.door_shaped os _) (by kernel_rfl) (by kernel_rfl) (by kernel_rfl) (door_met os _)) ?_
  intro W base args ds gs before hval0 hW _ _ hL hsh
  have hval : ∀ (j : Nat) t v, Tryz.f3.params[j]? = some t → args[j]? = some v → Value.okWide Tryz.prog W .any base t v := hval0
  have hW' := hW
  obtain ⟨p, q, hA0, hV, rfl, hfz, hnd⟩ := hW
  have hA : DataW.TrodAll enc Tryz.prog W 0 (fun _ => true) true Tryz.f3.params.toList args.toList ds p := hA0
  rw [Tryz.params3] at hA hval
  obtain ⟨v0, vs0, d0, ds0, p0, q0, hargs, rfl, rfl, h0, r0⟩ := trodAll_cons hA
  obtain ⟨v1, vs1, d1, ds1, p1, q1, rfl, rfl, rfl, h1, r1⟩ := trodAll_cons r0
  obtain ⟨v2, vs2, d2, ds2, p2, q2, rfl, rfl, rfl, h2, r2⟩ := trodAll_cons r1
  obtain ⟨rfl, rfl, rfl⟩ := trodAll_nil r2
  obtain rfl : args = #[v0, v1, v2] := by cases args; simp_all
  obtain ⟨rfl, rfl⟩ := trodVars_none hV
  have k0 := h0
  have lt0 : ∀ x ∈ p0, x.block < W.heap.size := by obtain ⟨m, hm⟩ := k0; exact DataW.trod_lt m _ _ _ hm
  have k1 := h1
  have lt1 : ∀ x ∈ p1, x.block < W.heap.size := by obtain ⟨m, hm⟩ := k1; exact DataW.trod_lt m _ _ _ hm
  have k2 := h2
  have lt2 : ∀ x ∈ p2, x.block < W.heap.size := by obtain ⟨m, hm⟩ := k2; exact DataW.trod_lt m _ _ _ hm
  obtain ⟨M0, nm0, cm0, z0, s0, A0, n0, cp0, l0, rfl, w0⟩ := Tx.open_inn (hval 0 27 v0 rfl rfl) h0
  obtain ⟨a1, rfl, rfl, rfl, w1⟩ := open_int Tryz.underlying2 (hval 1 2 v1 rfl rfl) h1
  obtain ⟨b2, rfl, w2⟩ := Tx.open_box (hval 2 31 v2 rfl rfl) h2
  clear hA0 hval0
  refine (walk W M0 nm0 cm0 z0 s0 A0 n0 cp0 l0 w0.1 w0.2.1 w0.2.2.1 w0.2.2.2.1 w0.2.2.2.2 a1 w1 b2 w2 (tab hL)).mono fun e W' ⟨he, bel⟩ => ?_
  subst he
  exact ⟨_, rfl, _, _, _, [], _, [], hW', trodAll_mk1 (shut_bool Tryz.underlying4 _), (trodAll_cons_mk (Below.trod laidOut (by kernel_rfl) (of_decide_eq_true (by kernel_rfl)) k0 bel lt0) (trodAll_cons_mk (Below.trod laidOut (by kernel_rfl) (of_decide_eq_true (by kernel_rfl)) k1 bel lt1) (trodAll_cons_mk (Below.trod laidOut (by kernel_rfl) (of_decide_eq_true (by kernel_rfl)) k2 bel lt2) trodAll_mk0))), rfl, bel.frame _, fun h => by cases h⟩

theorem over : Rows.fnExactHandRow.holds Tryz.pinned (OpenSpec.ofChange Rows.fnExactHandSpec) :=
  OpenClaim.holds_of_wide 3 Tryz.f3 rfl rfl rfl rfl rfl rfl rfl ⟨rfl, rfl, rfl, rfl, rfl⟩ rfl rfl rfl rfl rfl (by kernel_rfl) Tryz.func3 (by kernel_rfl)
    (of_decide_eq_true (by kernel_rfl)) (by unfold Func.isWrapper; first | (rw [if_pos (by decide +kernel)]; kernel_rfl) | (rw [if_neg (by decide +kernel)]; exact ⟨rfl, rfl⟩))
    (fun os started H enc _ => lifted os started H enc)

end Go.Proofs.YtioogmeghmeelaaGreatDoor.fnExactHand

namespace Go.Proofs.YtioogmeghmeelaaGreatDoor
theorem fnExactHand_proved : Rows.FnExactHandCardSaid :=
  Claim7.holds_tied_plain_at .later [] Rows.fnExactHandCard.laidKinds true Rows.fnExactHandCard.stood.harness true
    fnExactHand.over (fun _ h => by cases h) (by kernel_rfl) (fun _ h => by cases h) fnExactHand_row_tie rfl ⟨rfl, rfl⟩ (by kernel_rfl) rfl
    (fun f fn hf hfn => by
      obtain rfl : f = 3 := Option.some.inj ((show Tryz.prog.funcNamed Rows.fnExactHandRow.func = some 3 by kernel_rfl).symm.trans hf) |>.symm
      obtain rfl : fn = Tryz.f3 := (Option.some.inj (Tryz.func3.symm.trans hfn)).symm
      exact ⟨by kernel_rfl, fun j t ht => by
        rw [Tryz.params3] at ht
        have hm : t ∈ [27, 2, 31] := by simpa using Array.mem_of_getElem? ht
        have hall : ([27, 2, 31].all fun u => !Tryz.prog.wantsStandIn u) = true := by kernel_rfl
        exact (show Tryz.prog.wantsStandIn t = false by simpa using List.all_eq_true.1 hall t hm)⟩)
    (by kernel_rfl)
#print axioms fnExactHand_proved
end Go.Proofs.YtioogmeghmeelaaGreatDoor

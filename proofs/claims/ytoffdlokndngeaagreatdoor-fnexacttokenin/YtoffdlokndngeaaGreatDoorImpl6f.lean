/-
  What the program's tokenOf and Unsealed answer. Conditions: the library's variables lie as its text lays them.
-/
import Derived.Test.YtoffdlokndngeaaGreatDoorImpl6e
namespace Go.Proofs.YtoffdlokndngeaaGreatDoor.Tx
open Go.RowKit

set_option maxRecDepth 100000 in
set_option maxHeartbeats 8000000 in
theorem tokenOf_any (inn : Int) (b : BoxV) (w : World) (hg : Glob w) :
    Calls Tryz.prog 70 #[.int .i64 inn, b.val] w fun e w' => e = endOf (progO inn b) ∧ Below w.heap.size w w' := by
  obtain ⟨⟨xu, xs, xh, xa⟩, xn, xt, xp⟩ := b
  have HV : Hid (BoxV.val ⟨⟨xu, xs, xh, xa⟩, xn, xt, xp⟩ = .agg #[.int .i64 xu, .int .i64 xs, .int .i64 xh, .int .i64 xa, .int .i64 xn, .string xt, .bool xp]) := rfl
  rw [HV.out]
  obtain ⟨W, hW⟩ : ∃ W, (w.alloc (.cells #[.int .i64 xu, .int .i64 xs, .int .i64 xh, .int .i64 xa, .int .i64 xn, .string xt, .bool xp] 30)).alloc (.cells #[.int .i64 0, .int .i64 0, .int .i64 0, .int .i64 0, .int .i64 0, .int .i64 0, .int .i64 0, .int .i64 0, .int .i64 0, .string ⟨#[]⟩, .bool false] 39) = W := ⟨_, rfl⟩
  have K : Hid (Below w.heap.size w W) := by rw [← hW]; exact ((Below.refl _ w).alloc (Nat.le_refl _) _).alloc (by simp) _
  have X : Hid (W.heap[w.heap.size]? = some (.cells #[.int .i64 xu, .int .i64 xs, .int .i64 xh, .int .i64 xa, .int .i64 xn, .string xt, .bool xp] 30)) := by rw [← hW]; exact heap2a w _ _
  have R : Hid (W.heap[w.heap.size + 1]? = some (.cells #[.int .i64 0, .int .i64 0, .int .i64 0, .int .i64 0, .int .i64 0, .int .i64 0, .int .i64 0, .int .i64 0, .int .i64 0, .string ⟨#[]⟩, .bool false] 39)) := by rw [← hW]; exact heap2b w _ _
  have HG0 := Lib.hid hg
  have HWW := Lib.hid hW
  clear hg hW
  obtain ⟨⟨ku, ks, kh, ka⟩, hk⟩ : ∃ x, rightK ⟨6, inn, 0, 0⟩ = x := ⟨_, rfl⟩
  obtain ⟨is, his⟩ : ∃ x, openB ⟨⟨xu, xs, xh, xa⟩, xn, xt, xp⟩ ⟨ku, ks, kh, ka⟩ 0 = x := ⟨_, rfl⟩
  obtain ⟨z, hz⟩ : ∃ x, openT ⟨⟨xu, xs, xh, xa⟩, xn, xt, xp⟩ ⟨ku, ks, kh, ka⟩ 0 = x := ⟨_, rfl⟩
  have hzs : z.size ≤ 40 := by rw [← hz]; exact open_size
  have hzt : is = true → z = xt := by intro e; rw [← hz, openT, his, e]; rfl
  have cK : Hid (∀ w' : World, Calls Tryz.prog 61 #[.int .i64 inn] w' fun e w'' => e = .returned (.agg #[.int .i64 ku, .int .i64 ks, .int .i64 kh, .int .i64 ka]) ∧ Below w'.heap.size w' w'') := fun w' => by have := TokenKey_impl inn w'; rw [hk] at this; exact this
  have cO : Hid (∀ w' : World, Calls Tryz.prog 72 #[.agg #[.int .i64 xu, .int .i64 xs, .int .i64 xh, .int .i64 xa, .int .i64 xn, .string xt, .bool xp], .agg #[.int .i64 ku, .int .i64 ks, .int .i64 kh, .int .i64 ka], .int .i64 0] w' fun e w'' => e = .returned (.tuple #[.string z, .bool is]) ∧ Below w'.heap.size w' w'') := fun w' => by have := Opened_impl ⟨⟨xu, xs, xh, xa⟩, xn, xt, xp⟩ ⟨ku, ks, kh, ka⟩ 0 w'; rw [his, hz] at this; exact this
  have HK := Lib.hid hk
  have HIS := Lib.hid his
  have HZT := Lib.hid hzt
  have HZS := Lib.hid hzs
  clear hk his hz hzt hzs
  go_enter Tryz.func70, Tryz.ntmps70
  go_wp2
  rw [HWW.out]
  refine wp_region_own (W := W) [] (fun _ => True) stays_true trivial [0, 0, 1, 1, 0, 0, 0, 0, 0] (by kernel_rfl) (by kernel_rfl) (by kernel_rfl) ?_
  have fk : ∀ q : In (plainEnv W []), _ := fun q => (blk7 (q.block X.out (by simp))).1
  refine wpO_quiet 2 rfl (by kernel_rfl) ?_
  simp only [List.take, List.drop]
  repeat (go_big_quiet_step (fail))
  refine wpQuiet_nil ?_
  refine wpO_call (f := 61) (args := #[.int .i64 inn]) (.agg #[.int .i64 ku, .int .i64 ks, .int .i64 kh, .int .i64 ka]) rfl (fun w' => by simp [go_sem]) (fun w' _ _ => cK.out w') ?_
  simp only [Act.put, List.setIfInBounds_toArray, List.set_cons_succ, List.set_cons_zero]
  refine wpO_call (f := 72) (args := #[.agg #[.int .i64 xu, .int .i64 xs, .int .i64 xh, .int .i64 xa, .int .i64 xn, .string xt, .bool xp], .agg #[.int .i64 ku, .int .i64 ks, .int .i64 kh, .int .i64 ka], .int .i64 0]) (.tuple #[.string z, .bool is]) rfl (fun w' => by simp [go_sem]) (fun w' _ _ => cO.out w') ?_
  simp only [Act.put, List.setIfInBounds_toArray, List.set_cons_succ, List.set_cons_zero]
  refine wpO_quiet 5 rfl (by kernel_rfl) ?_
  simp only [List.take, List.drop]
  repeat (go_big_quiet_step (fail))
  refine wpQuiet_nil ?_
  refine wpO_nil ?_
  rintro w1 b1' _
  have b1 := kept_below b1'
  have R1 := Lib.hid (blk_on b1 R.out)
  have X1 := Lib.hid (blk_on b1 X.out)
  have K1 := Lib.hid (K.out.trans (b1.mono K.out.size))
  clear fk b1 b1' R X K cK cO
  cases is with
  | false =>
    have HE : Hid (endOf (progO inn ⟨⟨xu, xs, xh, xa⟩, xn, xt, xp⟩) = .panicked [{ v := gaveUp, recovered := false }]) := by show _ = _; rw [progO, HK.out, HIS.out]; rfl
    go_wp2_with fail
    refine (need_false _).mono ?_
    rintro e w' ⟨rfl, rfl⟩
    go_wp2
    exact ⟨rfl, HE.out.symm, K1.out⟩
  | true =>
    have HZ : Hid (z = xt) := HZT.out rfl
    go_wp2_with fail
    refine (need_true _).mono ?_
    rintro e w' ⟨rfl, rfl⟩
    go_wp2_with fail
    refine (split_any z HZS.out _ (HG0.out.on K1.out)).mono ?_
    rintro e w2 ⟨rfl, hw2⟩
    obtain ⟨ps, hps⟩ : ∃ ps, splitT 45 z = ps := ⟨_, rfl⟩
    rw [hps] at hw2 ⊢
    have HPS : Hid (splitT 45 xt = ps) := by rw [← HZ.out]; exact hps
    have HSZ : Hid (∀ p ∈ ps, p.size ≤ 40) := fun p hp => Nat.le_trans (split_size (by rw [hps]; exact hp)) HZS.out
    have G : Hid (w2.heap[w1.heap.size]? = some (.cells (ps.map Value.string).toArray 9)) := by rw [hw2]; exact heap1 w1 _
    have b2 : Below w1.heap.size w1 w2 := by rw [hw2]; exact (Below.refl _ w1).alloc (Nat.le_refl _) _
    have R2 := Lib.hid (blk_on b2 R1.out)
    have X2 := Lib.hid (blk_on b2 X1.out)
    have K2 := Lib.hid (K1.out.trans (b2.mono K1.out.size))
    obtain ⟨g, hg⟩ : ∃ g, w1.heap.size = g := ⟨_, rfl⟩
    rw [hg] at G ⊢
    clear hw2 hps b2 R1 X1 K1 hg
    by_cases hl : ps.length = 4
    · obtain ⟨p0, p1, p2, p3, rfl⟩ : ∃ p0 p1 p2 p3, ps = [p0, p1, p2, p3] := by
        rcases ps with _ | ⟨p0, _ | ⟨p1, _ | ⟨p2, _ | ⟨p3, _ | ⟨p4, r⟩⟩⟩⟩⟩ <;> simp at hl
        exact ⟨p0, p1, p2, p3, rfl⟩
      clear hl
      have HN : Hid (progO inn ⟨⟨xu, xs, xh, xa⟩, xn, xt, xp⟩ = match numE p0, numE p1, numE p2, numE p3 with
          | some n0, some n1, some n2, some n3 => if (tokOkB ⟨n0, n1, n2, n3, ⟨⟨xu, xs, xh, xa⟩, xn, xt, xp⟩⟩ && sealedB ⟨n0, n1, n2, n3, ⟨⟨xu, xs, xh, xa⟩, xn, xt, xp⟩⟩) = true then some ⟨n0, n1, n2, n3, ⟨⟨xu, xs, xh, xa⟩, xn, xt, xp⟩⟩ else none
          | _, _, _, _ => none) := by
        show _ = _
        rw [progO, HK.out, HIS.out, if_pos rfl]
        simp only [HPS.out]
        rfl
      have hL : List.length [p0, p1, p2, p3] = 4 := rfl
      rw [hL]
      go_wp2_with fail
      refine (need_true _).mono ?_
      rintro e w' ⟨rfl, rfl⟩
      have G2 : Hid (w2.heap[g]? = some (.cells #[.string p0, .string p1, .string p2, .string p3] 9)) := G.out
      have HG2 : Hid (∀ w', Below w2.heap.size w2 w' → Glob w') := fun w' h' => (HG0.out.on K2.out).on h'
      go_wp2
      cases e0 : numE p0 with
      | none =>
        have c0 : Hid (∀ w' : World, Glob w' → Calls Tryz.prog 104 #[.string p0] w' fun e w'' => e = .panicked [{ v := gaveUp, recovered := false }] ∧ Below w'.heap.size w' w'') := fun w' h' => by have := numberOf_any p0 (HSZ.out p0 (by simp)) w' h'; rw [numEnd, e0] at this; exact this
        have HE : Hid (endOf (progO inn ⟨⟨xu, xs, xh, xa⟩, xn, xt, xp⟩) = .panicked [{ v := gaveUp, recovered := false }]) := by show _ = _; rw [HN.out]; simp [e0, endOf]
        clear e0
        refine wp_region_die (W := w2) [] (fun ch w' => ch = [{ v := gaveUp, recovered := false }] ∧ Below w2.heap.size w2 w') (fun _ => True) stays_true trivial [0, 0, 0, 1, 0, 0, 0, 1, 0, 0, 0, 1, 0, 0, 0, 1, 0, 0, 2, 3] (fun ch a' w' hdf hd => by obtain ⟨rfl, hb⟩ := hd; exact ⟨hdf, HE.out.symm, K2.out.trans (hb.mono K2.out.size)⟩) (by kernel_rfl) (by kernel_rfl) (by kernel_rfl) ?_
        have fk : ∀ q : In (dieEnv w2 [] (fun ch w' => ch = [{ v := gaveUp, recovered := false }] ∧ Below w2.heap.size w2 w')), _ := fun q => (blk4 (q.blockD G2.out (by simp))).1
        have fx : ∀ q : In (dieEnv w2 [] (fun ch w' => ch = [{ v := gaveUp, recovered := false }] ∧ Below w2.heap.size w2 w')), _ := fun q => (blk7 (q.blockD X2.out (by simp))).1
        refine wpO_quiet 3 rfl (by kernel_rfl) ?_
        simp only [List.take, List.drop]
        repeat (go_big_quiet_step (fail))
        refine wpQuiet_nil ?_
        refine wpO_die (f := 104) (args := #[.string p0]) (.int .i64 0) rfl (fun w' => by simp [go_sem]) (fun w' hc _ => (c0.out w' (HG2.out w' (keptD_below hc))).mono fun e w'' hr => ⟨_, hr.1, rfl, (keptD_below hc).trans (hr.2.mono (keptD_below hc).size)⟩) ?_
        simp only [Act.put, List.setIfInBounds_toArray, List.set_cons_succ, List.set_cons_zero]
        refine wpO_quiet 3 rfl (by kernel_rfl) ?_
        simp only [List.take, List.drop]
        repeat (go_big_quiet_step (fail))
        refine wpQuiet_nil ?_
        refine wpO_call (f := 104) (args := #[.string p1]) (.int .i64 0) rfl (fun w' => by simp [go_sem]) (fun w' _ hf => hf.2.elim) ?_
        simp only [Act.put, List.setIfInBounds_toArray, List.set_cons_succ, List.set_cons_zero]
        refine wpO_quiet 3 rfl (by kernel_rfl) ?_
        simp only [List.take, List.drop]
        repeat (go_big_quiet_step (fail))
        refine wpQuiet_nil ?_
        refine wpO_call (f := 104) (args := #[.string p2]) (.int .i64 0) rfl (fun w' => by simp [go_sem]) (fun w' _ hf => hf.2.elim) ?_
        simp only [Act.put, List.setIfInBounds_toArray, List.set_cons_succ, List.set_cons_zero]
        refine wpO_quiet 3 rfl (by kernel_rfl) ?_
        simp only [List.take, List.drop]
        repeat (go_big_quiet_step (fail))
        refine wpQuiet_nil ?_
        refine wpO_call (f := 104) (args := #[.string p3]) (.int .i64 0) rfl (fun w' => by simp [go_sem]) (fun w' _ hf => hf.2.elim) ?_
        simp only [Act.put, List.setIfInBounds_toArray, List.set_cons_succ, List.set_cons_zero]
        refine wpO_quiet 2 rfl (by kernel_rfl) ?_
        simp only [List.take, List.drop]
        repeat (go_big_quiet_step (fail))
        refine wpQuiet_nil ?_
        refine wpO_alloc (.cells #[.int .i64 0, .int .i64 0, .int .i64 0, .int .i64 0, .int .i64 0, .int .i64 0, .int .i64 0, .int .i64 0, .int .i64 0, .string ⟨#[]⟩, .bool false] 39) rfl (fun w' => by simp [go_sem]) fun q mq _ => ?_
        simp only [Act.put, List.setIfInBounds_toArray, List.set_cons_succ, List.set_cons_zero]
        refine wpO_store (g := q) (t := 39) (old := #[.int .i64 0, .int .i64 0, .int .i64 0, .int .i64 0, .int .i64 0, .int .i64 0, .int .i64 0, .int .i64 0, .int .i64 0, .string ⟨#[]⟩, .bool false]) (fun _ => False) #[.int .i64 0, .int .i64 0, .int .i64 0, .int .i64 0, .int .i64 xu, .int .i64 xs, .int .i64 xh, .int .i64 xa, .int .i64 xn, .string xt, .bool xp] rfl rfl rfl rfl (Env.own _ mq) (by kernel_rfl) rfl rfl (fun w' h => h.1.2.elim) (fun _ _ _ h _ => h) (fun _ _ _ h => h) ?_
        simp only [Act.put]
        refine wpO_nil ?_
        exact fun w' _ h => h.1.elim
      | some n0 =>
        cases e1 : numE p1 with
        | none =>
          have c0 : Hid (∀ w' : World, Glob w' → Calls Tryz.prog 104 #[.string p0] w' fun e w'' => e = .returned (.int .i64 n0) ∧ Below w'.heap.size w' w'') := fun w' h' => by have := numberOf_any p0 (HSZ.out p0 (by simp)) w' h'; rw [numEnd, e0] at this; exact this
          have c1 : Hid (∀ w' : World, Glob w' → Calls Tryz.prog 104 #[.string p1] w' fun e w'' => e = .panicked [{ v := gaveUp, recovered := false }] ∧ Below w'.heap.size w' w'') := fun w' h' => by have := numberOf_any p1 (HSZ.out p1 (by simp)) w' h'; rw [numEnd, e1] at this; exact this
          have HE : Hid (endOf (progO inn ⟨⟨xu, xs, xh, xa⟩, xn, xt, xp⟩) = .panicked [{ v := gaveUp, recovered := false }]) := by show _ = _; rw [HN.out]; simp [e0, e1, endOf]
          clear e0 e1
          refine wp_region_die (W := w2) [] (fun ch w' => ch = [{ v := gaveUp, recovered := false }] ∧ Below w2.heap.size w2 w') (fun _ => True) stays_true trivial [0, 0, 0, 1, 0, 0, 0, 1, 0, 0, 0, 1, 0, 0, 0, 1, 0, 0, 2, 3] (fun ch a' w' hdf hd => by obtain ⟨rfl, hb⟩ := hd; exact ⟨hdf, HE.out.symm, K2.out.trans (hb.mono K2.out.size)⟩) (by kernel_rfl) (by kernel_rfl) (by kernel_rfl) ?_
          have fk : ∀ q : In (dieEnv w2 [] (fun ch w' => ch = [{ v := gaveUp, recovered := false }] ∧ Below w2.heap.size w2 w')), _ := fun q => (blk4 (q.blockD G2.out (by simp))).1
          have fx : ∀ q : In (dieEnv w2 [] (fun ch w' => ch = [{ v := gaveUp, recovered := false }] ∧ Below w2.heap.size w2 w')), _ := fun q => (blk7 (q.blockD X2.out (by simp))).1
          refine wpO_quiet 3 rfl (by kernel_rfl) ?_
          simp only [List.take, List.drop]
          repeat (go_big_quiet_step (fail))
          refine wpQuiet_nil ?_
          refine wpO_call (f := 104) (args := #[.string p0]) (.int .i64 n0) rfl (fun w' => by simp [go_sem]) (fun w' hc _ => c0.out w' (HG2.out w' (keptD_below hc))) ?_
          simp only [Act.put, List.setIfInBounds_toArray, List.set_cons_succ, List.set_cons_zero]
          refine wpO_quiet 3 rfl (by kernel_rfl) ?_
          simp only [List.take, List.drop]
          repeat (go_big_quiet_step (fail))
          refine wpQuiet_nil ?_
          refine wpO_die (f := 104) (args := #[.string p1]) (.int .i64 0) rfl (fun w' => by simp [go_sem]) (fun w' hc _ => (c1.out w' (HG2.out w' (keptD_below hc))).mono fun e w'' hr => ⟨_, hr.1, rfl, (keptD_below hc).trans (hr.2.mono (keptD_below hc).size)⟩) ?_
          simp only [Act.put, List.setIfInBounds_toArray, List.set_cons_succ, List.set_cons_zero]
          refine wpO_quiet 3 rfl (by kernel_rfl) ?_
          simp only [List.take, List.drop]
          repeat (go_big_quiet_step (fail))
          refine wpQuiet_nil ?_
          refine wpO_call (f := 104) (args := #[.string p2]) (.int .i64 0) rfl (fun w' => by simp [go_sem]) (fun w' _ hf => hf.2.elim) ?_
          simp only [Act.put, List.setIfInBounds_toArray, List.set_cons_succ, List.set_cons_zero]
          refine wpO_quiet 3 rfl (by kernel_rfl) ?_
          simp only [List.take, List.drop]
          repeat (go_big_quiet_step (fail))
          refine wpQuiet_nil ?_
          refine wpO_call (f := 104) (args := #[.string p3]) (.int .i64 0) rfl (fun w' => by simp [go_sem]) (fun w' _ hf => hf.2.elim) ?_
          simp only [Act.put, List.setIfInBounds_toArray, List.set_cons_succ, List.set_cons_zero]
          refine wpO_quiet 2 rfl (by kernel_rfl) ?_
          simp only [List.take, List.drop]
          repeat (go_big_quiet_step (fail))
          refine wpQuiet_nil ?_
          refine wpO_alloc (.cells #[.int .i64 0, .int .i64 0, .int .i64 0, .int .i64 0, .int .i64 0, .int .i64 0, .int .i64 0, .int .i64 0, .int .i64 0, .string ⟨#[]⟩, .bool false] 39) rfl (fun w' => by simp [go_sem]) fun q mq _ => ?_
          simp only [Act.put, List.setIfInBounds_toArray, List.set_cons_succ, List.set_cons_zero]
          refine wpO_store (g := q) (t := 39) (old := #[.int .i64 0, .int .i64 0, .int .i64 0, .int .i64 0, .int .i64 0, .int .i64 0, .int .i64 0, .int .i64 0, .int .i64 0, .string ⟨#[]⟩, .bool false]) (fun _ => False) #[.int .i64 n0, .int .i64 0, .int .i64 0, .int .i64 0, .int .i64 xu, .int .i64 xs, .int .i64 xh, .int .i64 xa, .int .i64 xn, .string xt, .bool xp] rfl rfl rfl rfl (Env.own _ mq) (by kernel_rfl) rfl rfl (fun w' h => h.1.2.elim) (fun _ _ _ h _ => h) (fun _ _ _ h => h) ?_
          simp only [Act.put]
          refine wpO_nil ?_
          exact fun w' _ h => h.1.elim
        | some n1 =>
          cases e2 : numE p2 with
          | none =>
            have c0 : Hid (∀ w' : World, Glob w' → Calls Tryz.prog 104 #[.string p0] w' fun e w'' => e = .returned (.int .i64 n0) ∧ Below w'.heap.size w' w'') := fun w' h' => by have := numberOf_any p0 (HSZ.out p0 (by simp)) w' h'; rw [numEnd, e0] at this; exact this
            have c1 : Hid (∀ w' : World, Glob w' → Calls Tryz.prog 104 #[.string p1] w' fun e w'' => e = .returned (.int .i64 n1) ∧ Below w'.heap.size w' w'') := fun w' h' => by have := numberOf_any p1 (HSZ.out p1 (by simp)) w' h'; rw [numEnd, e1] at this; exact this
            have c2 : Hid (∀ w' : World, Glob w' → Calls Tryz.prog 104 #[.string p2] w' fun e w'' => e = .panicked [{ v := gaveUp, recovered := false }] ∧ Below w'.heap.size w' w'') := fun w' h' => by have := numberOf_any p2 (HSZ.out p2 (by simp)) w' h'; rw [numEnd, e2] at this; exact this
            have HE : Hid (endOf (progO inn ⟨⟨xu, xs, xh, xa⟩, xn, xt, xp⟩) = .panicked [{ v := gaveUp, recovered := false }]) := by show _ = _; rw [HN.out]; simp [e0, e1, e2, endOf]
            clear e0 e1 e2
            refine wp_region_die (W := w2) [] (fun ch w' => ch = [{ v := gaveUp, recovered := false }] ∧ Below w2.heap.size w2 w') (fun _ => True) stays_true trivial [0, 0, 0, 1, 0, 0, 0, 1, 0, 0, 0, 1, 0, 0, 0, 1, 0, 0, 2, 3] (fun ch a' w' hdf hd => by obtain ⟨rfl, hb⟩ := hd; exact ⟨hdf, HE.out.symm, K2.out.trans (hb.mono K2.out.size)⟩) (by kernel_rfl) (by kernel_rfl) (by kernel_rfl) ?_
            have fk : ∀ q : In (dieEnv w2 [] (fun ch w' => ch = [{ v := gaveUp, recovered := false }] ∧ Below w2.heap.size w2 w')), _ := fun q => (blk4 (q.blockD G2.out (by simp))).1
            have fx : ∀ q : In (dieEnv w2 [] (fun ch w' => ch = [{ v := gaveUp, recovered := false }] ∧ Below w2.heap.size w2 w')), _ := fun q => (blk7 (q.blockD X2.out (by simp))).1
            refine wpO_quiet 3 rfl (by kernel_rfl) ?_
            simp only [List.take, List.drop]
            repeat (go_big_quiet_step (fail))
            refine wpQuiet_nil ?_
            refine wpO_call (f := 104) (args := #[.string p0]) (.int .i64 n0) rfl (fun w' => by simp [go_sem]) (fun w' hc _ => c0.out w' (HG2.out w' (keptD_below hc))) ?_
            simp only [Act.put, List.setIfInBounds_toArray, List.set_cons_succ, List.set_cons_zero]
            refine wpO_quiet 3 rfl (by kernel_rfl) ?_
            simp only [List.take, List.drop]
            repeat (go_big_quiet_step (fail))
            refine wpQuiet_nil ?_
            refine wpO_call (f := 104) (args := #[.string p1]) (.int .i64 n1) rfl (fun w' => by simp [go_sem]) (fun w' hc _ => c1.out w' (HG2.out w' (keptD_below hc))) ?_
            simp only [Act.put, List.setIfInBounds_toArray, List.set_cons_succ, List.set_cons_zero]
            refine wpO_quiet 3 rfl (by kernel_rfl) ?_
            simp only [List.take, List.drop]
            repeat (go_big_quiet_step (fail))
            refine wpQuiet_nil ?_
            refine wpO_die (f := 104) (args := #[.string p2]) (.int .i64 0) rfl (fun w' => by simp [go_sem]) (fun w' hc _ => (c2.out w' (HG2.out w' (keptD_below hc))).mono fun e w'' hr => ⟨_, hr.1, rfl, (keptD_below hc).trans (hr.2.mono (keptD_below hc).size)⟩) ?_
            simp only [Act.put, List.setIfInBounds_toArray, List.set_cons_succ, List.set_cons_zero]
            refine wpO_quiet 3 rfl (by kernel_rfl) ?_
            simp only [List.take, List.drop]
            repeat (go_big_quiet_step (fail))
            refine wpQuiet_nil ?_
            refine wpO_call (f := 104) (args := #[.string p3]) (.int .i64 0) rfl (fun w' => by simp [go_sem]) (fun w' _ hf => hf.2.elim) ?_
            simp only [Act.put, List.setIfInBounds_toArray, List.set_cons_succ, List.set_cons_zero]
            refine wpO_quiet 2 rfl (by kernel_rfl) ?_
            simp only [List.take, List.drop]
            repeat (go_big_quiet_step (fail))
            refine wpQuiet_nil ?_
            refine wpO_alloc (.cells #[.int .i64 0, .int .i64 0, .int .i64 0, .int .i64 0, .int .i64 0, .int .i64 0, .int .i64 0, .int .i64 0, .int .i64 0, .string ⟨#[]⟩, .bool false] 39) rfl (fun w' => by simp [go_sem]) fun q mq _ => ?_
            simp only [Act.put, List.setIfInBounds_toArray, List.set_cons_succ, List.set_cons_zero]
            refine wpO_store (g := q) (t := 39) (old := #[.int .i64 0, .int .i64 0, .int .i64 0, .int .i64 0, .int .i64 0, .int .i64 0, .int .i64 0, .int .i64 0, .int .i64 0, .string ⟨#[]⟩, .bool false]) (fun _ => False) #[.int .i64 n0, .int .i64 n1, .int .i64 0, .int .i64 0, .int .i64 xu, .int .i64 xs, .int .i64 xh, .int .i64 xa, .int .i64 xn, .string xt, .bool xp] rfl rfl rfl rfl (Env.own _ mq) (by kernel_rfl) rfl rfl (fun w' h => h.1.2.elim) (fun _ _ _ h _ => h) (fun _ _ _ h => h) ?_
            simp only [Act.put]
            refine wpO_nil ?_
            exact fun w' _ h => h.1.elim
          | some n2 =>
            cases e3 : numE p3 with
            | none =>
              have c0 : Hid (∀ w' : World, Glob w' → Calls Tryz.prog 104 #[.string p0] w' fun e w'' => e = .returned (.int .i64 n0) ∧ Below w'.heap.size w' w'') := fun w' h' => by have := numberOf_any p0 (HSZ.out p0 (by simp)) w' h'; rw [numEnd, e0] at this; exact this
              have c1 : Hid (∀ w' : World, Glob w' → Calls Tryz.prog 104 #[.string p1] w' fun e w'' => e = .returned (.int .i64 n1) ∧ Below w'.heap.size w' w'') := fun w' h' => by have := numberOf_any p1 (HSZ.out p1 (by simp)) w' h'; rw [numEnd, e1] at this; exact this
              have c2 : Hid (∀ w' : World, Glob w' → Calls Tryz.prog 104 #[.string p2] w' fun e w'' => e = .returned (.int .i64 n2) ∧ Below w'.heap.size w' w'') := fun w' h' => by have := numberOf_any p2 (HSZ.out p2 (by simp)) w' h'; rw [numEnd, e2] at this; exact this
              have c3 : Hid (∀ w' : World, Glob w' → Calls Tryz.prog 104 #[.string p3] w' fun e w'' => e = .panicked [{ v := gaveUp, recovered := false }] ∧ Below w'.heap.size w' w'') := fun w' h' => by have := numberOf_any p3 (HSZ.out p3 (by simp)) w' h'; rw [numEnd, e3] at this; exact this
              have HE : Hid (endOf (progO inn ⟨⟨xu, xs, xh, xa⟩, xn, xt, xp⟩) = .panicked [{ v := gaveUp, recovered := false }]) := by show _ = _; rw [HN.out]; simp [e0, e1, e2, e3, endOf]
              clear e0 e1 e2 e3
              refine wp_region_die (W := w2) [] (fun ch w' => ch = [{ v := gaveUp, recovered := false }] ∧ Below w2.heap.size w2 w') (fun _ => True) stays_true trivial [0, 0, 0, 1, 0, 0, 0, 1, 0, 0, 0, 1, 0, 0, 0, 1, 0, 0, 2, 3] (fun ch a' w' hdf hd => by obtain ⟨rfl, hb⟩ := hd; exact ⟨hdf, HE.out.symm, K2.out.trans (hb.mono K2.out.size)⟩) (by kernel_rfl) (by kernel_rfl) (by kernel_rfl) ?_
              have fk : ∀ q : In (dieEnv w2 [] (fun ch w' => ch = [{ v := gaveUp, recovered := false }] ∧ Below w2.heap.size w2 w')), _ := fun q => (blk4 (q.blockD G2.out (by simp))).1
              have fx : ∀ q : In (dieEnv w2 [] (fun ch w' => ch = [{ v := gaveUp, recovered := false }] ∧ Below w2.heap.size w2 w')), _ := fun q => (blk7 (q.blockD X2.out (by simp))).1
              refine wpO_quiet 3 rfl (by kernel_rfl) ?_
              simp only [List.take, List.drop]
              repeat (go_big_quiet_step (fail))
              refine wpQuiet_nil ?_
              refine wpO_call (f := 104) (args := #[.string p0]) (.int .i64 n0) rfl (fun w' => by simp [go_sem]) (fun w' hc _ => c0.out w' (HG2.out w' (keptD_below hc))) ?_
              simp only [Act.put, List.setIfInBounds_toArray, List.set_cons_succ, List.set_cons_zero]
              refine wpO_quiet 3 rfl (by kernel_rfl) ?_
              simp only [List.take, List.drop]
              repeat (go_big_quiet_step (fail))
              refine wpQuiet_nil ?_
              refine wpO_call (f := 104) (args := #[.string p1]) (.int .i64 n1) rfl (fun w' => by simp [go_sem]) (fun w' hc _ => c1.out w' (HG2.out w' (keptD_below hc))) ?_
              simp only [Act.put, List.setIfInBounds_toArray, List.set_cons_succ, List.set_cons_zero]
              refine wpO_quiet 3 rfl (by kernel_rfl) ?_
              simp only [List.take, List.drop]
              repeat (go_big_quiet_step (fail))
              refine wpQuiet_nil ?_
              refine wpO_call (f := 104) (args := #[.string p2]) (.int .i64 n2) rfl (fun w' => by simp [go_sem]) (fun w' hc _ => c2.out w' (HG2.out w' (keptD_below hc))) ?_
              simp only [Act.put, List.setIfInBounds_toArray, List.set_cons_succ, List.set_cons_zero]
              refine wpO_quiet 3 rfl (by kernel_rfl) ?_
              simp only [List.take, List.drop]
              repeat (go_big_quiet_step (fail))
              refine wpQuiet_nil ?_
              refine wpO_die (f := 104) (args := #[.string p3]) (.int .i64 0) rfl (fun w' => by simp [go_sem]) (fun w' hc _ => (c3.out w' (HG2.out w' (keptD_below hc))).mono fun e w'' hr => ⟨_, hr.1, rfl, (keptD_below hc).trans (hr.2.mono (keptD_below hc).size)⟩) ?_
              simp only [Act.put, List.setIfInBounds_toArray, List.set_cons_succ, List.set_cons_zero]
              refine wpO_quiet 2 rfl (by kernel_rfl) ?_
              simp only [List.take, List.drop]
              repeat (go_big_quiet_step (fail))
              refine wpQuiet_nil ?_
              refine wpO_alloc (.cells #[.int .i64 0, .int .i64 0, .int .i64 0, .int .i64 0, .int .i64 0, .int .i64 0, .int .i64 0, .int .i64 0, .int .i64 0, .string ⟨#[]⟩, .bool false] 39) rfl (fun w' => by simp [go_sem]) fun q mq _ => ?_
              simp only [Act.put, List.setIfInBounds_toArray, List.set_cons_succ, List.set_cons_zero]
              refine wpO_store (g := q) (t := 39) (old := #[.int .i64 0, .int .i64 0, .int .i64 0, .int .i64 0, .int .i64 0, .int .i64 0, .int .i64 0, .int .i64 0, .int .i64 0, .string ⟨#[]⟩, .bool false]) (fun _ => False) #[.int .i64 n0, .int .i64 n1, .int .i64 n2, .int .i64 0, .int .i64 xu, .int .i64 xs, .int .i64 xh, .int .i64 xa, .int .i64 xn, .string xt, .bool xp] rfl rfl rfl rfl (Env.own _ mq) (by kernel_rfl) rfl rfl (fun w' h => h.1.2.elim) (fun _ _ _ h _ => h) (fun _ _ _ h => h) ?_
              simp only [Act.put]
              refine wpO_nil ?_
              exact fun w' _ h => h.1.elim
            | some n3 =>
              have c0 : Hid (∀ w' : World, Glob w' → Calls Tryz.prog 104 #[.string p0] w' fun e w'' => e = .returned (.int .i64 n0) ∧ Below w'.heap.size w' w'') := fun w' h' => by have := numberOf_any p0 (HSZ.out p0 (by simp)) w' h'; rw [numEnd, e0] at this; exact this
              have c1 : Hid (∀ w' : World, Glob w' → Calls Tryz.prog 104 #[.string p1] w' fun e w'' => e = .returned (.int .i64 n1) ∧ Below w'.heap.size w' w'') := fun w' h' => by have := numberOf_any p1 (HSZ.out p1 (by simp)) w' h'; rw [numEnd, e1] at this; exact this
              have c2 : Hid (∀ w' : World, Glob w' → Calls Tryz.prog 104 #[.string p2] w' fun e w'' => e = .returned (.int .i64 n2) ∧ Below w'.heap.size w' w'') := fun w' h' => by have := numberOf_any p2 (HSZ.out p2 (by simp)) w' h'; rw [numEnd, e2] at this; exact this
              have c3 : Hid (∀ w' : World, Glob w' → Calls Tryz.prog 104 #[.string p3] w' fun e w'' => e = .returned (.int .i64 n3) ∧ Below w'.heap.size w' w'') := fun w' h' => by have := numberOf_any p3 (HSZ.out p3 (by simp)) w' h'; rw [numEnd, e3] at this; exact this
              have HO : Hid (progO inn ⟨⟨xu, xs, xh, xa⟩, xn, xt, xp⟩ = if (tokOkB ⟨n0, n1, n2, n3, ⟨⟨xu, xs, xh, xa⟩, xn, xt, xp⟩⟩ && sealedB ⟨n0, n1, n2, n3, ⟨⟨xu, xs, xh, xa⟩, xn, xt, xp⟩⟩) = true then some ⟨n0, n1, n2, n3, ⟨⟨xu, xs, xh, xa⟩, xn, xt, xp⟩⟩ else none) := by show _ = _; rw [HN.out]; simp only [e0, e1, e2, e3]
              have HI0 := Lib.hid (numE_64 e0)
              have HI1 := Lib.hid (numE_64 e1)
              have HI2 := Lib.hid (numE_64 e2)
              have HI3 := Lib.hid (numE_64 e3)
              clear e0 e1 e2 e3
              refine wp_region_own (W := w2) [] (fun _ => True) stays_true trivial [0, 0, 0, 1, 0, 0, 0, 1, 0, 0, 0, 1, 0, 0, 0, 1, 0, 0, 2, 3] (by kernel_rfl) (by kernel_rfl) (by kernel_rfl) ?_
              have fk : ∀ q : In (plainEnv w2 []), _ := fun q => (blk4 (q.block G2.out (by simp))).1
              have fx : ∀ q : In (plainEnv w2 []), _ := fun q => (blk7 (q.block X2.out (by simp))).1
              refine wpO_quiet 3 rfl (by kernel_rfl) ?_
              simp only [List.take, List.drop]
              repeat (go_big_quiet_step (fail))
              refine wpQuiet_nil ?_
              refine wpO_call (f := 104) (args := #[.string p0]) (.int .i64 n0) rfl (fun w' => by simp [go_sem]) (fun w' hc _ => c0.out w' (HG2.out w' (kept_below hc))) ?_
              simp only [Act.put, List.setIfInBounds_toArray, List.set_cons_succ, List.set_cons_zero]
              refine wpO_quiet 3 rfl (by kernel_rfl) ?_
              simp only [List.take, List.drop]
              repeat (go_big_quiet_step (fail))
              refine wpQuiet_nil ?_
              refine wpO_call (f := 104) (args := #[.string p1]) (.int .i64 n1) rfl (fun w' => by simp [go_sem]) (fun w' hc _ => c1.out w' (HG2.out w' (kept_below hc))) ?_
              simp only [Act.put, List.setIfInBounds_toArray, List.set_cons_succ, List.set_cons_zero]
              refine wpO_quiet 3 rfl (by kernel_rfl) ?_
              simp only [List.take, List.drop]
              repeat (go_big_quiet_step (fail))
              refine wpQuiet_nil ?_
              refine wpO_call (f := 104) (args := #[.string p2]) (.int .i64 n2) rfl (fun w' => by simp [go_sem]) (fun w' hc _ => c2.out w' (HG2.out w' (kept_below hc))) ?_
              simp only [Act.put, List.setIfInBounds_toArray, List.set_cons_succ, List.set_cons_zero]
              refine wpO_quiet 3 rfl (by kernel_rfl) ?_
              simp only [List.take, List.drop]
              repeat (go_big_quiet_step (fail))
              refine wpQuiet_nil ?_
              refine wpO_call (f := 104) (args := #[.string p3]) (.int .i64 n3) rfl (fun w' => by simp [go_sem]) (fun w' hc _ => c3.out w' (HG2.out w' (kept_below hc))) ?_
              simp only [Act.put, List.setIfInBounds_toArray, List.set_cons_succ, List.set_cons_zero]
              refine wpO_quiet 2 rfl (by kernel_rfl) ?_
              simp only [List.take, List.drop]
              repeat (go_big_quiet_step (fail))
              refine wpQuiet_nil ?_
              refine wpO_alloc (.cells #[.int .i64 0, .int .i64 0, .int .i64 0, .int .i64 0, .int .i64 0, .int .i64 0, .int .i64 0, .int .i64 0, .int .i64 0, .string ⟨#[]⟩, .bool false] 39) rfl (fun w' => by simp [go_sem]) fun q mq _ => ?_
              simp only [Act.put, List.setIfInBounds_toArray, List.set_cons_succ, List.set_cons_zero]
              refine wpO_store (g := q) (t := 39) (old := #[.int .i64 0, .int .i64 0, .int .i64 0, .int .i64 0, .int .i64 0, .int .i64 0, .int .i64 0, .int .i64 0, .int .i64 0, .string ⟨#[]⟩, .bool false]) (fun _ => True) #[.int .i64 n0, .int .i64 n1, .int .i64 n2, .int .i64 n3, .int .i64 xu, .int .i64 xs, .int .i64 xh, .int .i64 xa, .int .i64 xn, .string xt, .bool xp] rfl rfl rfl rfl (Env.own _ mq) (by kernel_rfl) rfl rfl (fun w' h => ⟨trivial, h.2⟩) stays_true (away_true _) ?_
              simp only [Act.put]
              refine wpO_nil ?_
              rintro w3 b3' ⟨_, hT⟩
              have b3 := kept_below b3'
              have T3 := Lib.hid hT
              have R3 := Lib.hid (blk_on b3 R2.out)
              have K3 := Lib.hid (K2.out.trans (b3.mono K2.out.size))
              have HG3 := Lib.hid (HG2.out w3 b3)
              clear fk fx b3 b3' hT R2 X2 K2 G G2
              obtain ⟨⟨d0, d1, d2, d3, d4, d5, d6, d7, d8, d9, d10⟩, _⟩ := blk11 T3.out
              go_wp2_with fail
              clear d0 d1 d2 d3 d4 d5 d6 d7 d8 d9 d10
              refine (TokenOk_impl ⟨n0, n1, n2, n3, ⟨⟨xu, xs, xh, xa⟩, xn, xt, xp⟩⟩ HI0.out HI1.out HI2.out HI3.out _ HG3.out.tab).mono ?_
              rintro e w4 ⟨rfl, b4⟩
              have T4 := Lib.hid (blk_on b4 T3.out)
              have R4 := Lib.hid (blk_on b4 R3.out)
              have K4 := Lib.hid (K3.out.trans (b4.mono K3.out.size))
              clear b4 T3 R3 K3
              cases hok : (tokOkB ⟨n0, n1, n2, n3, ⟨⟨xu, xs, xh, xa⟩, xn, xt, xp⟩⟩ && sealedB ⟨n0, n1, n2, n3, ⟨⟨xu, xs, xh, xa⟩, xn, xt, xp⟩⟩) with
              | false =>
                have HE : Hid (endOf (progO inn ⟨⟨xu, xs, xh, xa⟩, xn, xt, xp⟩) = .panicked [{ v := gaveUp, recovered := false }]) := by show _ = _; rw [HO.out, hok]; rfl
                go_wp2_with fail
                refine (need_false _).mono ?_
                rintro e w' ⟨rfl, rfl⟩
                go_wp2
                exact ⟨rfl, HE.out.symm, K4.out⟩
              | true =>
                have HE : Hid (endOf (progO inn ⟨⟨xu, xs, xh, xa⟩, xn, xt, xp⟩) = .returned (TokV.val ⟨n0, n1, n2, n3, ⟨⟨xu, xs, xh, xa⟩, xn, xt, xp⟩⟩)) := by show _ = _; rw [HO.out, hok]; rfl
                go_wp2_with fail
                refine (need_true _).mono ?_
                rintro e w' ⟨rfl, rfl⟩
                obtain ⟨⟨d0, d1, d2, d3, d4, d5, d6, d7, d8, d9, d10⟩, _⟩ := blk11 T4.out
                obtain ⟨⟨h0, h1, h2, h3, h4, h5, h6, h7, h8, h9, h10⟩, k0, k1, k2, k3, k4, k5, k6, k7, k8, k9, k10⟩ := blk11 R4.out
                go_wp2
                refine row_ret (r := w.heap.size + 1) (cs := List.toArray (TokV.cells ⟨n0, n1, n2, n3, ⟨⟨xu, xs, xh, xa⟩, xn, xt, xp⟩⟩)) rfl rfl (setAll_whole (w := w4) (vs := TokV.cells ⟨n0, n1, n2, n3, ⟨⟨xu, xs, xh, xa⟩, xn, xt, xp⟩⟩) R4.out rfl) Tryz.underlying39 rfl (by kernel_rfl) rfl ⟨by rw [HE.out]; rfl, setAll_below (w := w4) (by omega) (TokV.cells ⟨n0, n1, n2, n3, ⟨⟨xu, xs, xh, xa⟩, xn, xt, xp⟩⟩) 0 K4.out⟩
    · have HE : Hid (endOf (progO inn ⟨⟨xu, xs, xh, xa⟩, xn, xt, xp⟩) = .panicked [{ v := gaveUp, recovered := false }]) := by
        show _ = _
        rw [progO, HK.out, HIS.out, if_pos rfl]
        simp only [HPS.out]
        rcases ps with _ | ⟨p0, _ | ⟨p1, _ | ⟨p2, _ | ⟨p3, _ | ⟨p4, r⟩⟩⟩⟩⟩
        · rfl
        · rfl
        · rfl
        · rfl
        · simp at hl
        · rfl
      have hl' : ((ps.length : Int) == 4) = false := by rw [beq_eq_false_iff_ne]; omega
      go_wp2_with fail
      refine (need_false _).mono ?_
      rintro e w' ⟨rfl, rfl⟩
      go_wp2
      exact ⟨rfl, HE.out.symm, K2.out⟩

set_option maxHeartbeats 4000000 in
theorem oldInner_any (g : Nat) (inn : Int) (b : BoxV) (w : World) (hg : Glob w) (hi : w.heap[g]? = some (.cells #[.int .i64 inn] 2)) (hb : w.heap[g + 1]? = some (.cells b.cells.toArray 30)) :
    Calls Tryz.prog 69 #[.pointer (some ⟨g, 0, none⟩), .pointer (some ⟨g + 1, 0, none⟩)] w fun e w' => e = endOf (progO inn b) ∧ Below w.heap.size w w' := by
  obtain ⟨⟨xu, xs, xh, xa⟩, xn, xt, xp⟩ := b
  obtain ⟨W, hW⟩ : ∃ W, w.alloc (.cells #[.int .i64 0, .int .i64 0, .int .i64 0, .int .i64 0, .int .i64 0, .int .i64 0, .int .i64 0, .int .i64 0, .int .i64 0, .string ⟨#[]⟩, .bool false] 39) = W := ⟨_, rfl⟩
  have K : Hid (Below w.heap.size w W) := by rw [← hW]; exact (Below.refl _ w).alloc (Nat.le_refl _) _
  have R : Hid (W.heap[w.heap.size]? = some (.cells #[.int .i64 0, .int .i64 0, .int .i64 0, .int .i64 0, .int .i64 0, .int .i64 0, .int .i64 0, .int .i64 0, .int .i64 0, .string ⟨#[]⟩, .bool false] 39)) := by rw [← hW]; exact heap1 w _
  have q0 : W.cell? ⟨g, 0, none⟩ = some (.int .i64 inn) := blk_cell (blk_on K.out hi) 0
  obtain ⟨⟨b0, b1, b2, b3, b4, b5, b6⟩, _⟩ := blk7 (blk_on K.out (show w.heap[g + 1]? = some (.cells #[.int .i64 xu, .int .i64 xs, .int .i64 xh, .int .i64 xa, .int .i64 xn, .string xt, .bool xp] 30) from hb))
  have HG := Lib.hid (hg.on K.out)
  obtain ⟨o, ho⟩ : ∃ o, progO inn ⟨⟨xu, xs, xh, xa⟩, xn, xt, xp⟩ = o := ⟨_, rfl⟩
  have HO := Lib.hid ho
  clear hg hi hb ho
  go_enter Tryz.func69, Tryz.ntmps69
  go_wp2_with fail
  clear hW q0 b0 b1 b2 b3 b4 b5 b6
  refine (tokenOf_any inn ⟨⟨xu, xs, xh, xa⟩, xn, xt, xp⟩ _ HG.out).mono ?_
  rintro e w1 ⟨rfl, b1⟩
  rw [HO.out]
  have R1 := Lib.hid (blk_on b1 R.out)
  have K1 := Lib.hid (K.out.trans (b1.mono K.out.size))
  clear b1 R K
  cases o with
  | none =>
    have HE : Hid (endOf none = .panicked [{ v := gaveUp, recovered := false }]) := rfl
    rw [HE.out]
    go_wp2
    exact ⟨rfl, by rw [HO.out]; rfl, K1.out⟩
  | some t =>
    obtain ⟨ts, tb, tl, tm, ⟨⟨yu, ys, yh, ya⟩, yn, yt, yp⟩⟩ := t
    have HV : Hid (endOf (some ⟨ts, tb, tl, tm, ⟨⟨yu, ys, yh, ya⟩, yn, yt, yp⟩⟩) = .returned (.agg #[.int .i64 ts, .int .i64 tb, .int .i64 tl, .int .i64 tm, .int .i64 yu, .int .i64 ys, .int .i64 yh, .int .i64 ya, .int .i64 yn, .string yt, .bool yp])) := rfl
    rw [HV.out]
    obtain ⟨⟨c0, c1, c2, c3, c4, c5, c6, c7, c8, c9, c10⟩, f0, f1, f2, f3, f4, f5, f6, f7, f8, f9, f10⟩ := blk11 R1.out
    go_wp2
    refine row_ret (r := w.heap.size) (cs := List.toArray (TokV.cells ⟨ts, tb, tl, tm, ⟨⟨yu, ys, yh, ya⟩, yn, yt, yp⟩⟩)) rfl rfl (setAll_whole (w := w1) (vs := TokV.cells ⟨ts, tb, tl, tm, ⟨⟨yu, ys, yh, ya⟩, yn, yt, yp⟩⟩) R1.out rfl) Tryz.underlying39 rfl (by kernel_rfl) rfl ⟨by rw [HO.out]; rfl, setAll_below (w := w1) (Nat.le_refl _) (TokV.cells ⟨ts, tb, tl, tm, ⟨⟨yu, ys, yh, ya⟩, yn, yt, yp⟩⟩) 0 K1.out⟩

set_option maxHeartbeats 4000000 in
theorem Unsealed_impl (inn : Int) (b : BoxV) (w : World) (hg : Glob w) :
    Calls Tryz.prog 33 #[.int .i64 inn, b.val] w fun e w' => e = .returned (.tuple #[((unsealO inn b).getD .zero).val, .bool (unsealO inn b).isSome]) ∧ Below w.heap.size w w' := by
  have hmf : ∀ (fn : Fn) (first cap : Array Value) (w : World), (Instr.makeFunc fn first cap).run Tryz.prog w = .ok (.func fn first cap) w := fun _ _ _ _ => rfl
  obtain ⟨⟨xu, xs, xh, xa⟩, xn, xt, xp⟩ := b
  have HVB : Hid (BoxV.val ⟨⟨xu, xs, xh, xa⟩, xn, xt, xp⟩ = .agg #[.int .i64 xu, .int .i64 xs, .int .i64 xh, .int .i64 xa, .int .i64 xn, .string xt, .bool xp]) := rfl
  rw [HVB.out, ← prog_model]
  obtain ⟨W, hW⟩ : ∃ W, ((w.alloc (.cells #[.int .i64 inn] 2)).alloc (.cells #[.int .i64 xu, .int .i64 xs, .int .i64 xh, .int .i64 xa, .int .i64 xn, .string xt, .bool xp] 30)).alloc (.cells #[.int .i64 0, .int .i64 0, .int .i64 0, .int .i64 0, .int .i64 0, .int .i64 0, .int .i64 0, .int .i64 0, .int .i64 0, .string ⟨#[]⟩, .bool false] 39) = W := ⟨_, rfl⟩
  have K : Hid (Below w.heap.size w W) := by rw [← hW]; exact (((Below.refl _ w).alloc (Nat.le_refl _) _).alloc (by simp) _).alloc (by simp <;> omega) _
  have B0 : Hid (W.heap[w.heap.size]? = some (.cells #[.int .i64 inn] 2)) := by rw [← hW]; exact heap3a w _ _ _
  have B1 : Hid (W.heap[w.heap.size + 1]? = some (.cells (BoxV.cells ⟨⟨xu, xs, xh, xa⟩, xn, xt, xp⟩).toArray 30)) := by rw [← hW]; exact heap3b w _ _ _
  have R : Hid (W.heap[w.heap.size + 2]? = some (.cells #[.int .i64 0, .int .i64 0, .int .i64 0, .int .i64 0, .int .i64 0, .int .i64 0, .int .i64 0, .int .i64 0, .int .i64 0, .string ⟨#[]⟩, .bool false] 39)) := by rw [← hW]; exact heap3c w _ _ _
  have HG := Lib.hid (hg.on K.out)
  have hc := Lib.hid (fun (w' : World) (hw' : Below W.heap.size W w') => oldInner_any w.heap.size inn ⟨⟨xu, xs, xh, xa⟩, xn, xt, xp⟩ w' (HG.out.on hw') (blk_on hw' B0.out) (blk_on hw' B1.out))
  obtain ⟨o, ho⟩ : ∃ o, progO inn ⟨⟨xu, xs, xh, xa⟩, xn, xt, xp⟩ = o := ⟨_, rfl⟩
  rw [ho] at hc ⊢
  obtain ⟨⟨ts, tb, tl, tm, ⟨⟨yu, ys, yh, ya⟩, yn, yt, yp⟩⟩, hv⟩ : ∃ x, o.getD .zero = x := ⟨_, rfl⟩
  obtain ⟨y, hy⟩ : ∃ x, o.isSome = x := ⟨_, rfl⟩
  have HV := Lib.hid hv
  have HY := Lib.hid hy
  clear hg ho hv hy
  go_enter Tryz.func33, Tryz.ntmps33
  go_wp2_with fail
  clear hW
  refine (face_old _ o W hc.out).mono ?_
  rintro e w1 ⟨rfl, b1⟩
  have R1 := Lib.hid (blk_on b1 R.out)
  have K1 := Lib.hid (K.out.trans (b1.mono K.out.size))
  clear b1 R K B0 B1
  rw [HV.out, HY.out]
  have HVV : Hid (TokV.val ⟨ts, tb, tl, tm, ⟨⟨yu, ys, yh, ya⟩, yn, yt, yp⟩⟩ = .agg #[.int .i64 ts, .int .i64 tb, .int .i64 tl, .int .i64 tm, .int .i64 yu, .int .i64 ys, .int .i64 yh, .int .i64 ya, .int .i64 yn, .string yt, .bool yp]) := rfl
  rw [HVV.out]
  obtain ⟨⟨c0, c1, c2, c3, c4, c5, c6, c7, c8, c9, c10⟩, f0, f1, f2, f3, f4, f5, f6, f7, f8, f9, f10⟩ := blk11 R1.out
  go_wp2
  refine row_ret2 (r := w.heap.size + 2) (cs := List.toArray (TokV.cells ⟨ts, tb, tl, tm, ⟨⟨yu, ys, yh, ya⟩, yn, yt, yp⟩⟩)) rfl rfl rfl (setAll_whole (w := w1) (vs := TokV.cells ⟨ts, tb, tl, tm, ⟨⟨yu, ys, yh, ya⟩, yn, yt, yp⟩⟩) R1.out rfl) Tryz.underlying39 rfl (by kernel_rfl) rfl ⟨by rw [HV.out, HY.out]; rfl, setAll_below (w := w1) (by omega) (TokV.cells ⟨ts, tb, tl, tm, ⟨⟨yu, ys, yh, ya⟩, yn, yt, yp⟩⟩) 0 K1.out⟩

end Go.Proofs.YtoffdlokndngeaaGreatDoor.Tx

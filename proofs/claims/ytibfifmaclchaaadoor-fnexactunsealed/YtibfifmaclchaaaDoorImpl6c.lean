/-
  What the program's sealedBy and NewToken answer: the token, or, where something would not be right, the zero token and false, by way of a panic that the face recovers. Conditions: the numbers are int64; the library's table of powers of ten holds what its text lays in it.
-/
import Derived.Defers
import Derived.Recover
import Derived.Test.YtibfifmaclchaaaDoorImpl6b
namespace Go.Proofs.YtibfifmaclchaaaDoor.Tx
open Go.RowKit

/-- How the inner call ends. -/
def endOf (o : Option TokV) : Ending := match o with | some t => .returned t.val | none => .panicked [{ v := gaveUp, recovered := false }]
def newTokO (inn s b l m : Int) : Option TokV := if newTokB inn s b l m then some (newTokV inn s b l m) else none
theorem newTokO_val (inn s b l m : Int) : (newTokO inn s b l m).getD .zero = newTokV inn s b l m ∧ (newTokO inn s b l m).isSome = newTokB inn s b l m := by
  unfold newTokO
  cases h : newTokB inn s b l m with
  | false => exact ⟨(newTok_false h).symm, rfl⟩
  | true => exact ⟨rfl, rfl⟩

set_option maxHeartbeats 4000000 in
theorem sealedBy_any (inn s b l m : Int) (h0 : I64 s) (h1 : I64 b) (h2 : I64 l) (h3 : I64 m) (w : World) (ht : Tab w) :
    Calls Tryd.prog 18 #[(TokV.mk s b l m .zero).val, .int .i64 inn] w fun e w' => e = endOf (newTokO inn s b l m) ∧ Below w.heap.size w w' := by
  have HV : Hid (TokV.val ⟨s, b, l, m, .zero⟩ = .agg #[.int .i64 s, .int .i64 b, .int .i64 l, .int .i64 m, .int .i64 0, .int .i64 0, .int .i64 0, .int .i64 0, .int .i64 0, .string ⟨#[]⟩, .bool false]) := rfl
  rw [HV.out]
  obtain ⟨W, hW⟩ : ∃ W, (w.alloc (.cells #[.int .i64 s, .int .i64 b, .int .i64 l, .int .i64 m, .int .i64 0, .int .i64 0, .int .i64 0, .int .i64 0, .int .i64 0, .string ⟨#[]⟩, .bool false] 27)).alloc (.cells #[.int .i64 0, .int .i64 0, .int .i64 0, .int .i64 0, .int .i64 0, .int .i64 0, .int .i64 0, .int .i64 0, .int .i64 0, .string ⟨#[]⟩, .bool false] 27) = W := ⟨_, rfl⟩
  have K : Hid (Below w.heap.size w W) := by rw [← hW]; exact ((Below.refl _ w).alloc (Nat.le_refl _) _).alloc (by simp) _
  have T : Hid (W.heap[w.heap.size]? = some (.cells #[.int .i64 s, .int .i64 b, .int .i64 l, .int .i64 m, .int .i64 0, .int .i64 0, .int .i64 0, .int .i64 0, .int .i64 0, .string ⟨#[]⟩, .bool false] 27)) := by rw [← hW]; exact heap2a w _ _
  have R : Hid (W.heap[w.heap.size + 1]? = some (.cells #[.int .i64 0, .int .i64 0, .int .i64 0, .int .i64 0, .int .i64 0, .int .i64 0, .int .i64 0, .int .i64 0, .int .i64 0, .string ⟨#[]⟩, .bool false] 27)) := by rw [← hW]; exact heap2b w _ _
  have sW : w.heap.size + 1 < W.heap.size := blk_in R.out
  have HWW := Lib.hid hW
  have HT := Lib.hid (ht.on K.out)
  have HT0 := Lib.hid ht
  clear hW ht
  obtain ⟨⟨ku, ks, kh, ka⟩, hk⟩ : ∃ x, rightK ⟨6, inn, 0, 0⟩ = x := ⟨_, rfl⟩
  obtain ⟨z, hz⟩ : ∃ z, tokTxt s b l m = z := ⟨_, rfl⟩
  obtain ⟨⟨⟨xu, xs, xh, xa⟩, xn, xt, xp⟩, hx⟩ : ∃ x, lockV ⟨⟨ku, ks, kh, ka⟩, 0, z, false⟩ = x := ⟨_, rfl⟩
  obtain ⟨is, his⟩ : ∃ x, boxOkB ⟨⟨ku, ks, kh, ka⟩, 0, z, false⟩ = x := ⟨_, rfl⟩
  have HSB : Hid (sealBox inn s b l m = ⟨⟨ku, ks, kh, ka⟩, 0, z, false⟩) := by show BoxV.mk _ _ _ _ = _; rw [hk, hz]
  have cK : Hid (∀ w' : World, Calls Tryd.prog 35 #[.int .i64 inn] w' fun e w'' => e = .returned (.agg #[.int .i64 ku, .int .i64 ks, .int .i64 kh, .int .i64 ka]) ∧ Below w'.heap.size w' w'') := fun w' => by have := TokenKey_impl inn w'; rw [hk] at this; exact this
  have cT : Hid (∀ w' : World, Tab w' → Calls Tryd.prog 36 #[.agg #[.int .i64 s, .int .i64 b, .int .i64 l, .int .i64 m, .int .i64 0, .int .i64 0, .int .i64 0, .int .i64 0, .int .i64 0, .string ⟨#[]⟩, .bool false]] w' fun e w'' => e = .returned (.string z) ∧ Below w'.heap.size w' w'') := fun w' h' => by have := written_any ⟨s, b, l, m, .zero⟩ h0 h1 h2 h3 w' h'; dsimp only at this; rw [hz] at this; exact this
  have cL : Hid (∀ w' : World, Calls Tryd.prog 34 #[.agg #[.int .i64 ku, .int .i64 ks, .int .i64 kh, .int .i64 ka], .int .i64 0, .string z] w' fun e w'' => e = .returned (.tuple #[.agg #[.int .i64 xu, .int .i64 xs, .int .i64 xh, .int .i64 xa, .int .i64 xn, .string xt, .bool xp], .bool is]) ∧ Below w'.heap.size w' w'') := fun w' => by have := Locked_impl ⟨ku, ks, kh, ka⟩ 0 z w'; rw [hx, his] at this; exact this
  have H0 := Lib.hid h0
  have H1 := Lib.hid h1
  have H2 := Lib.hid h2
  have H3 := Lib.hid h3
  have HZ := Lib.hid hz
  have HIS := Lib.hid his
  have HX := Lib.hid hx
  clear hk hz hx his h0 h1 h2 h3
  go_enter Tryd.func18, Tryd.ntmps18
  go_wp2
  rw [HWW.out]
  refine wp_region_own (W := W) [] (fun _ => True) stays_true trivial [0, 1, 0, 1, 1, 0, 0, 0, 2, 3, 0] (by kernel_rfl) (by kernel_rfl) (by kernel_rfl) ?_
  have fk : ∀ q : In (plainEnv W []), _ := fun q => (blk11 (q.block T.out (by simp))).1
  refine wpO_quiet 1 rfl (by kernel_rfl) ?_
  simp only [List.take, List.drop]
  repeat (go_big_quiet_step (fail))
  refine wpQuiet_nil ?_
  refine wpO_call (f := 35) (args := #[.int .i64 inn]) (.agg #[.int .i64 ku, .int .i64 ks, .int .i64 kh, .int .i64 ka]) rfl (fun w' => by simp [go_sem]) (fun w' _ _ => cK.out w') ?_
  simp only [Act.put, List.setIfInBounds_toArray, List.set_cons_succ, List.set_cons_zero]
  refine wpO_quiet 1 rfl (by kernel_rfl) ?_
  simp only [List.take, List.drop]
  repeat (go_big_quiet_step (fail))
  refine wpQuiet_nil ?_
  refine wpO_call (f := 36) (args := #[.agg #[.int .i64 s, .int .i64 b, .int .i64 l, .int .i64 m, .int .i64 0, .int .i64 0, .int .i64 0, .int .i64 0, .int .i64 0, .string ⟨#[]⟩, .bool false]]) (.string z) rfl (fun w' => by simp [go_sem]) (fun w' hc _ => cT.out w' (HT.out.on (kept_below hc))) ?_
  simp only [Act.put, List.setIfInBounds_toArray, List.set_cons_succ, List.set_cons_zero]
  refine wpO_call (f := 34) (args := #[.agg #[.int .i64 ku, .int .i64 ks, .int .i64 kh, .int .i64 ka], .int .i64 0, .string z]) (.tuple #[.agg #[.int .i64 xu, .int .i64 xs, .int .i64 xh, .int .i64 xa, .int .i64 xn, .string xt, .bool xp], .bool is]) rfl (fun w' => by simp [go_sem]) (fun w' _ _ => cL.out w') ?_
  simp only [Act.put, List.setIfInBounds_toArray, List.set_cons_succ, List.set_cons_zero]
  refine wpO_quiet 3 rfl (by kernel_rfl) ?_
  simp only [List.take, List.drop]
  repeat (go_big_quiet_step (fail))
  refine wpQuiet_nil ?_
  refine wpO_alloc (.cells #[.int .i64 0, .int .i64 0, .int .i64 0, .int .i64 0, .int .i64 0, .string ⟨#[]⟩, .bool false] 25) rfl (fun w' => by simp [go_sem]) fun g mg _ => ?_
  have hg : W.heap.size ≤ g := mg
  simp only [Act.put, List.setIfInBounds_toArray, List.set_cons_succ, List.set_cons_zero]
  refine wpO_store (g := g) (t := 25) (old := #[.int .i64 0, .int .i64 0, .int .i64 0, .int .i64 0, .int .i64 0, .string ⟨#[]⟩, .bool false]) (fun _ => True) #[.int .i64 xu, .int .i64 xs, .int .i64 xh, .int .i64 xa, .int .i64 xn, .string xt, .bool xp] rfl rfl rfl rfl (Env.own _ mg) (by kernel_rfl) rfl rfl (fun w' h => ⟨trivial, h.2⟩) stays_true (away_true _) ?_
  simp only [Act.put]
  refine wpO_quiet 1 rfl (by kernel_rfl) ?_
  simp only [List.take, List.drop]
  repeat (go_big_quiet_step (fail))
  refine wpQuiet_nil ?_
  refine wpO_nil ?_
  rintro w1 b1' ⟨_, hX1⟩
  have b1 := kept_below b1'
  have R1 := Lib.hid (blk_on b1 R.out)
  have T1 := Lib.hid (blk_on b1 T.out)
  have K1 := Lib.hid (K.out.trans (b1.mono K.out.size))
  have X1 := Lib.hid hX1
  clear fk b1 b1' hX1 R T K HT
  cases is with
  | false =>
    have HE : Hid (endOf (newTokO inn s b l m) = .panicked [{ v := gaveUp, recovered := false }]) := by
      have hn : newTokB inn s b l m = false := by rw [newTokB, HSB.out, HIS.out]; rfl
      show _ = _
      rw [newTokO, hn]; rfl
    go_wp2_with fail
    refine (need_false _).mono ?_
    rintro e w' ⟨rfl, rfl⟩
    go_wp2
    exact ⟨rfl, HE.out.symm, K1.out⟩
  | true =>
    go_wp2_with fail
    refine (need_true _).mono ?_
    rintro e w' ⟨rfl, rfl⟩
    obtain ⟨⟨c0, c1, c2, c3, c4, c5, c6⟩, _⟩ := blk7 X1.out
    obtain ⟨⟨d0, d1, d2, d3, d4, d5, d6, d7, d8, d9, d10⟩, f0, f1, f2, f3, f4, f5, f6, f7, f8, f9, f10⟩ := blk11 T1.out
    obtain ⟨W2, hW2⟩ : ∃ W2, setAll w1 w.heap.size 4 (BoxV.cells ⟨⟨xu, xs, xh, xa⟩, xn, xt, xp⟩) = W2 := ⟨_, rfl⟩
    have R2 : Hid (W2.heap[w.heap.size + 1]? = some (.cells #[.int .i64 0, .int .i64 0, .int .i64 0, .int .i64 0, .int .i64 0, .int .i64 0, .int .i64 0, .int .i64 0, .int .i64 0, .string ⟨#[]⟩, .bool false] 27)) := by rw [← hW2]; exact setAll_away (by omega) _ 4 R1.out
    have eT : overA #[.int .i64 s, .int .i64 b, .int .i64 l, .int .i64 m, .int .i64 0, .int .i64 0, .int .i64 0, .int .i64 0, .int .i64 0, .string ⟨#[]⟩, .bool false] 4 (BoxV.cells ⟨⟨xu, xs, xh, xa⟩, xn, xt, xp⟩) = #[.int .i64 s, .int .i64 b, .int .i64 l, .int .i64 m, .int .i64 xu, .int .i64 xs, .int .i64 xh, .int .i64 xa, .int .i64 xn, .string xt, .bool xp] := Array.toList_inj.1 ((overA_toList (BoxV.cells ⟨⟨xu, xs, xh, xa⟩, xn, xt, xp⟩) 4 #[.int .i64 s, .int .i64 b, .int .i64 l, .int .i64 m, .int .i64 0, .int .i64 0, .int .i64 0, .int .i64 0, .int .i64 0, .string ⟨#[]⟩, .bool false] (by show 4 + 7 ≤ 11; omega)).trans rfl)
    have T2 : Hid (W2.heap[w.heap.size]? = some (.cells #[.int .i64 s, .int .i64 b, .int .i64 l, .int .i64 m, .int .i64 xu, .int .i64 xs, .int .i64 xh, .int .i64 xa, .int .i64 xn, .string xt, .bool xp] 27)) := by show _ = _; rw [← hW2, setAll_blk (BoxV.cells ⟨⟨xu, xs, xh, xa⟩, xn, xt, xp⟩) 4 T1.out, eT]
    clear eT
    have K2 : Hid (Below w.heap.size w W2) := by rw [← hW2]; exact setAll_below (Nat.le_refl _) _ 4 K1.out
    have HT2 := Lib.hid (HT0.out.on K2.out)
    have hW : (((((((w1.setCell ⟨w.heap.size, 4, none⟩ (.int .i64 xu)).setCell ⟨w.heap.size, 5, none⟩ (.int .i64 xs)).setCell ⟨w.heap.size, 6, none⟩ (.int .i64 xh)).setCell ⟨w.heap.size, 7, none⟩ (.int .i64 xa)).setCell ⟨w.heap.size, 8, none⟩ (.int .i64 xn)).setCell ⟨w.heap.size, 9, none⟩ (.string xt)).setCell ⟨w.heap.size, 10, none⟩ (.bool xp)) = W2 := hW2
    clear hW2 R1 T1 K1
    obtain ⟨⟨g0, g1, g2, g3, g4, g5, g6, g7, g8, g9, g10⟩, _⟩ := blk11 T2.out
    go_wp2_with fail
    clear hW c0 c1 c2 c3 c4 c5 c6 d0 d1 d2 d3 d4 d5 d6 d7 d8 d9 d10 f0 f1 f2 f3 f4 f5 f6 f7 f8 f9 f10 g0 g1 g2 g3 g4 g5 g6 g7 g8 g9 g10
    refine (TokenOk_impl ⟨s, b, l, m, ⟨⟨xu, xs, xh, xa⟩, xn, xt, xp⟩⟩ H0.out H1.out H2.out H3.out _ HT2.out).mono ?_
    rintro e w3 ⟨rfl, b3⟩
    have R3 := Lib.hid (blk_on b3 R2.out)
    have T3 := Lib.hid (blk_on b3 T2.out)
    have K3 := Lib.hid (K2.out.trans (b3.mono K2.out.size))
    clear b3 R2 T2 K2
    have HS : Hid (sealedB ⟨s, b, l, m, ⟨⟨xu, xs, xh, xa⟩, xn, xt, xp⟩⟩ = true) := by
      have e : BoxV.mk ⟨xu, xs, xh, xa⟩ xn xt xp = ⟨⟨ku, ks, kh, ka⟩, 0, z, false⟩ := by rw [← HX.out, lockV, HIS.out, if_pos rfl]
      have e2 : xt = z := congrArg BoxV.t e
      show _ = _
      unfold sealedB
      rw [HZ.out]
      simp [e2]
    have HN : Hid (newTokB inn s b l m = tokOkB ⟨s, b, l, m, ⟨⟨xu, xs, xh, xa⟩, xn, xt, xp⟩⟩) := by show _ = _; rw [newTokB, HSB.out, HIS.out, HX.out]; rfl
    rw [HS.out, Bool.and_true]
    cases hok : tokOkB ⟨s, b, l, m, ⟨⟨xu, xs, xh, xa⟩, xn, xt, xp⟩⟩ with
    | false =>
      have HE : Hid (endOf (newTokO inn s b l m) = .panicked [{ v := gaveUp, recovered := false }]) := by show _ = _; rw [newTokO, HN.out, hok]; rfl
      go_wp2_with fail
      refine (need_false _).mono ?_
      rintro e w' ⟨rfl, rfl⟩
      go_wp2
      exact ⟨rfl, HE.out.symm, K3.out⟩
    | true =>
      have HE2 : Hid (endOf (newTokO inn s b l m) = .returned (TokV.val ⟨s, b, l, m, ⟨⟨xu, xs, xh, xa⟩, xn, xt, xp⟩⟩)) := by
        have hv : newTokV inn s b l m = ⟨s, b, l, m, ⟨⟨xu, xs, xh, xa⟩, xn, xt, xp⟩⟩ := by rw [newTokV, HN.out, hok, if_pos rfl, HSB.out, HX.out]
        show _ = _
        rw [newTokO, HN.out, hok, hv]; rfl
      go_wp2_with fail
      refine (need_true _).mono ?_
      rintro e w' ⟨rfl, rfl⟩
      obtain ⟨⟨g0, g1, g2, g3, g4, g5, g6, g7, g8, g9, g10⟩, k0, k1, k2, k3, k4, k5, k6, k7, k8, k9, k10⟩ := blk11 R3.out
      obtain ⟨⟨d0, d1, d2, d3, d4, d5, d6, d7, d8, d9, d10⟩, _⟩ := blk11 T3.out
      go_wp2
      refine row_ret (r := w.heap.size + 1) (cs := List.toArray (TokV.cells ⟨s, b, l, m, ⟨⟨xu, xs, xh, xa⟩, xn, xt, xp⟩⟩)) rfl rfl (setAll_whole (w := w3) (vs := TokV.cells ⟨s, b, l, m, ⟨⟨xu, xs, xh, xa⟩, xn, xt, xp⟩⟩) R3.out rfl) Tryd.underlying27 rfl (by kernel_rfl) rfl ⟨?_, setAll_below (w := w3) (by omega) (TokV.cells ⟨s, b, l, m, ⟨⟨xu, xs, xh, xa⟩, xn, xt, xp⟩⟩) 0 K3.out⟩
      rw [HE2.out]; rfl

/-- Two results in blocks: a token and a flag. -/
theorem results_two {fn : Func} {tmps : Array Value} {w : World} {r r' : Nat} {p p' : Tmp} {t t' : TypeId} {cs : Array Value} {x : Bool} (hres : fn.results = #[.cell p 27, .cell p' 4]) (hp : tmps.getD p undef = .pointer (some ⟨r, 0, none⟩)) (hp' : tmps.getD p' undef = .pointer (some ⟨r', 0, none⟩))
    (hblk : w.heap[r]? = some (.cells cs t (0, 0))) (hi : (Tryd.prog.info? 27).map (·.size) = some cs.size) (hblk' : w.heap[r']? = some (.cells #[.bool x] t' (0, 0))) :
    (results fn tmps).run Tryd.prog w = .ok (.tuple #[.agg cs, .bool x]) w := by
  have h1 : tmps[p]?.getD undef = .pointer (some ⟨r, 0, none⟩) := by simpa using hp
  have h2 : tmps[p']?.getD undef = .pointer (some ⟨r', 0, none⟩) := by simpa using hp'
  have h3 : w.cell? ⟨r', 0, none⟩ = some (.bool x) := blk_cell hblk' 0
  have h4 : (loadVar 4 ⟨r', 0, none⟩).run Tryd.prog w = .ok (.bool x) w := by simp [go_sem, h3]
  simp [results, hres, h1, h2, asAddr, run_loadVar_row w r t 27 cs (0, 0) _ hblk Tryd.underlying27 rfl hi, h4]

theorem catch_idle (p q : Addr) (w : World) : CallsD Tryd.prog 33 #[.pointer (some p), .pointer (some q)] .returning w fun e u' w' => e = .returned (.tuple #[]) ∧ u' = .returning ∧ w' = w := by
  refine callsD_of_wpS Tryd.func33 rfl fun c₀ cs hu => ?_
  apply wpS_seq
  apply wpS_region
  simp [wpOpsS, go_sem, recoverD, hu, Tryd.ntmps33, Exit.thenS]
  refine wpS_cond (t := false) (by simp [Act.eval, Array.replicate]) ?_
  simp only [Bool.false_eq_true, if_false]
  refine wpS_of_wp (wp_skip ?_)
  cases c₀
  simp_all [bodyPostS, results, Tryd.results33]

set_option maxHeartbeats 4000000 in
theorem catch_panic (g : Nat) (v0 v1 v2 v3 v4 v5 v6 v7 v8 v9 v10 : Value) (x : Value) (u : TypeId) (pv : Value) (older : List PanicEntry) (w : World) (hg : w.heap[g]? = some (.cells #[v0, v1, v2, v3, v4, v5, v6, v7, v8, v9, v10] 27)) (hq : w.heap[g + 1]? = some (.cells #[x] 4)) :
    CallsD Tryd.prog 33 #[.pointer (some ⟨g, 0, none⟩), .pointer (some ⟨g + 1, 0, none⟩)] (.panicking ({ v := .iface u pv, recovered := false } :: older)) w fun e u' w' =>
      e = .returned (.tuple #[]) ∧ u' = .panicking ({ v := .iface u pv, recovered := true } :: older) ∧ w' = (setAll w g 0 TokV.zero.cells).setCell ⟨g + 1, 0, none⟩ (.bool false) := by
  obtain ⟨⟨c0, c1, c2, c3, c4, c5, c6, c7, c8, c9, c10⟩, f0, f1, f2, f3, f4, f5, f6, f7, f8, f9, f10⟩ := blk11 hg
  have q0 := blk_cell hq 0
  have q1 := blk_frozen hq 0
  refine callsD_of_wpS Tryd.func33 rfl fun c₀ cs hu => ?_
  apply wpS_seq
  apply wpS_region
  simp [wpOpsS, go_sem, recoverD, hu, Tryd.ntmps33, Exit.thenS]
  refine wpS_cond (t := true) (by simp [Act.eval, Array.replicate]) ?_
  simp only [if_true]
  refine wpS_of_wp ?_
  go_wp2
  change bodyPostS _ _ _ _ _ _ _ _ ((setAll w g 0 TokV.zero.cells).setCell ⟨g + 1, 0, none⟩ (.bool false))
  generalize (setAll w g 0 TokV.zero.cells).setCell ⟨g + 1, 0, none⟩ (.bool false) = V
  simp [bodyPostS, results, Tryd.results33]

set_option maxHeartbeats 4000000 in
/-- The face, where the inner call hands back a token, and where it gives up. -/
theorem face_new (cap : Array Value) (o : Option TokV) (w : World) (hc : ∀ w', Below w.heap.size w w' → Calls Tryd.prog 17 cap w' fun e w'' => e = endOf o ∧ Below w'.heap.size w' w'') :
    Calls Tryd.prog 16 #[.func (.func 17) #[] cap] w fun e w' => e = .returned (.tuple #[(o.getD .zero).val, .bool o.isSome]) ∧ Below w.heap.size w w' := by
  have hmf : ∀ (fn : Fn) (first cap : Array Value) (w : World), (Instr.makeFunc fn first cap).run Tryd.prog w = .ok (.func fn first cap) w := fun _ _ _ _ => rfl
  obtain ⟨W, hW⟩ : ∃ W, (w.alloc (.cells #[.int .i64 0, .int .i64 0, .int .i64 0, .int .i64 0, .int .i64 0, .int .i64 0, .int .i64 0, .int .i64 0, .int .i64 0, .string ⟨#[]⟩, .bool false] 27)).alloc (.cells #[.bool false] 4) = W := ⟨_, rfl⟩
  have K : Hid (Below w.heap.size w W) := by rw [← hW]; exact ((Below.refl _ w).alloc (Nat.le_refl _) _).alloc (by simp) _
  have R : Hid (W.heap[w.heap.size]? = some (.cells #[.int .i64 0, .int .i64 0, .int .i64 0, .int .i64 0, .int .i64 0, .int .i64 0, .int .i64 0, .int .i64 0, .int .i64 0, .string ⟨#[]⟩, .bool false] 27)) := by rw [← hW]; exact heap2a w _ _
  have F : Hid (W.heap[w.heap.size + 1]? = some (.cells #[.bool false] 4)) := by rw [← hW]; exact heap2b w _ _
  have HC := Lib.hid hc
  clear hc
  go_enter_defers Tryd.func16, Tryd.ntmps16
  go_wp2_with fail
  clear hW
  cases o with
  | none =>
    refine (HC.out W K.out).mono ?_
    rintro e w1 ⟨rfl, b1⟩
    have R1 := Lib.hid (blk_on b1 R.out)
    have F1 := Lib.hid (blk_on b1 F.out)
    have K1 := Lib.hid (K.out.trans (b1.mono K.out.size))
    clear b1 R F K
    have HE : Hid (endOf none = .panicked [{ v := gaveUp, recovered := false }]) := rfl
    rw [HE.out]
    go_wp2
    refine leaves_cons (f := 33) (args := #[.pointer (some ⟨w.heap.size, 0, none⟩), .pointer (some ⟨w.heap.size + 1, 0, none⟩)]) (by simp) (by simp [go_sem]) ?_
    refine (catch_panic w.heap.size _ _ _ _ _ _ _ _ _ _ _ (.bool false) _ _ [] w1 R1.out F1.out).mono ?_
    rintro e u' w2 ⟨rfl, rfl, rfl⟩
    have hb1 : (setAll w1 w.heap.size 0 TokV.zero.cells).heap[w.heap.size]? = some (.cells TokV.zero.cells.toArray 27) := setAll_whole R1.out rfl
    have hf1 : (setAll w1 w.heap.size 0 TokV.zero.cells).heap[w.heap.size + 1]? = some (.cells #[.bool false] 4) := setAll_away (by omega) _ 0 F1.out
    have kb : Below w.heap.size w (setAll w1 w.heap.size 0 TokV.zero.cells) := setAll_below (Nat.le_refl _) _ 0 K1.out
    generalize setAll w1 w.heap.size 0 TokV.zero.cells = V at hb1 hf1 kb ⊢
    have hb2 : (V.setCell ⟨w.heap.size + 1, 0, none⟩ (.bool false)).heap[w.heap.size]? = some (.cells TokV.zero.cells.toArray 27) := (Below.heap_setCell V ⟨w.heap.size + 1, 0, none⟩ (.bool false) w.heap.size (by show w.heap.size ≠ w.heap.size + 1; omega)).trans hb1
    have hf2 : (V.setCell ⟨w.heap.size + 1, 0, none⟩ (.bool false)).heap[w.heap.size + 1]? = some (.cells #[.bool false] 4) := setAll_whole (vs := [.bool false]) hf1 rfl
    have kb2 : Below w.heap.size w (V.setCell ⟨w.heap.size + 1, 0, none⟩ (.bool false)) := kb.setCell (p := ⟨w.heap.size + 1, 0, none⟩) (by show w.heap.size ≤ w.heap.size + 1; omega) _
    generalize V.setCell ⟨w.heap.size + 1, 0, none⟩ (.bool false) = V2 at hb2 hf2 kb2 ⊢
    exact ⟨_, results_two rfl rfl rfl hb2 (by kernel_rfl) hf2, rfl, kb2⟩
  | some t =>
    obtain ⟨ts, tb, tl, tm, ⟨⟨xu, xs, xh, xa⟩, xn, xt, xp⟩⟩ := t
    obtain ⟨C, hC⟩ : ∃ C : List Value, TokV.cells ⟨ts, tb, tl, tm, ⟨⟨xu, xs, xh, xa⟩, xn, xt, xp⟩⟩ = C := ⟨_, rfl⟩
    have HCS := Lib.hid hC
    clear hC
    refine (HC.out W K.out).mono ?_
    rintro e w1 ⟨rfl, b1⟩
    have R1 := Lib.hid (blk_on b1 R.out)
    have F1 := Lib.hid (blk_on b1 F.out)
    have K1 := Lib.hid (K.out.trans (b1.mono K.out.size))
    clear b1 R F K
    have HV : Hid (endOf (some ⟨ts, tb, tl, tm, ⟨⟨xu, xs, xh, xa⟩, xn, xt, xp⟩⟩) = .returned (.agg #[.int .i64 ts, .int .i64 tb, .int .i64 tl, .int .i64 tm, .int .i64 xu, .int .i64 xs, .int .i64 xh, .int .i64 xa, .int .i64 xn, .string xt, .bool xp])) := rfl
    rw [HV.out]
    obtain ⟨⟨c0, c1, c2, c3, c4, c5, c6, c7, c8, c9, c10⟩, f0, f1, f2, f3, f4, f5, f6, f7, f8, f9, f10⟩ := blk11 R1.out
    have q0 : w1.cell? ⟨w.heap.size + 1, 0, none⟩ = some (.bool false) := blk_cell F1.out 0
    have q1 := blk_frozen F1.out 0
    go_wp2
    refine leaves_cons (f := 33) (args := #[.pointer (some ⟨w.heap.size, 0, none⟩), .pointer (some ⟨w.heap.size + 1, 0, none⟩)]) (by simp) (by simp [go_sem]) ?_
    refine (catch_idle ⟨w.heap.size, 0, none⟩ ⟨w.heap.size + 1, 0, none⟩ _).mono ?_
    rintro e u' w2 ⟨rfl, rfl, rfl⟩
    change Leaves _ _ _ _ _ _ ((setAll w1 w.heap.size 0 (TokV.cells ⟨ts, tb, tl, tm, ⟨⟨xu, xs, xh, xa⟩, xn, xt, xp⟩⟩)).setCell ⟨w.heap.size + 1, 0, none⟩ (.bool true))
    rw [HCS.out]
    have hlen : C.length = 11 := by rw [← HCS.out]; rfl
    have hb1 : (setAll w1 w.heap.size 0 C).heap[w.heap.size]? = some (.cells C.toArray 27) := setAll_whole R1.out (by rw [hlen]; rfl)
    have hf1 : (setAll w1 w.heap.size 0 C).heap[w.heap.size + 1]? = some (.cells #[.bool false] 4) := setAll_away (by omega) _ 0 F1.out
    have kb : Below w.heap.size w (setAll w1 w.heap.size 0 C) := setAll_below (Nat.le_refl _) _ 0 K1.out
    generalize setAll w1 w.heap.size 0 C = V at hb1 hf1 kb ⊢
    have hb2 : (V.setCell ⟨w.heap.size + 1, 0, none⟩ (.bool true)).heap[w.heap.size]? = some (.cells C.toArray 27) := (Below.heap_setCell V ⟨w.heap.size + 1, 0, none⟩ (.bool true) w.heap.size (by show w.heap.size ≠ w.heap.size + 1; omega)).trans hb1
    have hf2 : (V.setCell ⟨w.heap.size + 1, 0, none⟩ (.bool true)).heap[w.heap.size + 1]? = some (.cells #[.bool true] 4) := setAll_whole (vs := [.bool true]) hf1 rfl
    have kb2 : Below w.heap.size w (V.setCell ⟨w.heap.size + 1, 0, none⟩ (.bool true)) := kb.setCell (p := ⟨w.heap.size + 1, 0, none⟩) (by show w.heap.size ≤ w.heap.size + 1; omega) _
    generalize V.setCell ⟨w.heap.size + 1, 0, none⟩ (.bool true) = V2 at hb2 hf2 kb2 ⊢
    exact ⟨_, results_two rfl rfl rfl hb2 (by rw [List.size_toArray, hlen]; kernel_rfl) hf2, by rw [← HCS.out]; rfl, kb2⟩
set_option maxHeartbeats 4000000 in
/-- The face, where the inner call hands back a token, and where it gives up. -/
theorem face_old (cap : Array Value) (o : Option TokV) (w : World) (hc : ∀ w', Below w.heap.size w w' → Calls Tryd.prog 24 cap w' fun e w'' => e = endOf o ∧ Below w'.heap.size w' w'') :
    Calls Tryd.prog 16 #[.func (.func 24) #[] cap] w fun e w' => e = .returned (.tuple #[(o.getD .zero).val, .bool o.isSome]) ∧ Below w.heap.size w w' := by
  have hmf : ∀ (fn : Fn) (first cap : Array Value) (w : World), (Instr.makeFunc fn first cap).run Tryd.prog w = .ok (.func fn first cap) w := fun _ _ _ _ => rfl
  obtain ⟨W, hW⟩ : ∃ W, (w.alloc (.cells #[.int .i64 0, .int .i64 0, .int .i64 0, .int .i64 0, .int .i64 0, .int .i64 0, .int .i64 0, .int .i64 0, .int .i64 0, .string ⟨#[]⟩, .bool false] 27)).alloc (.cells #[.bool false] 4) = W := ⟨_, rfl⟩
  have K : Hid (Below w.heap.size w W) := by rw [← hW]; exact ((Below.refl _ w).alloc (Nat.le_refl _) _).alloc (by simp) _
  have R : Hid (W.heap[w.heap.size]? = some (.cells #[.int .i64 0, .int .i64 0, .int .i64 0, .int .i64 0, .int .i64 0, .int .i64 0, .int .i64 0, .int .i64 0, .int .i64 0, .string ⟨#[]⟩, .bool false] 27)) := by rw [← hW]; exact heap2a w _ _
  have F : Hid (W.heap[w.heap.size + 1]? = some (.cells #[.bool false] 4)) := by rw [← hW]; exact heap2b w _ _
  have HC := Lib.hid hc
  clear hc
  go_enter_defers Tryd.func16, Tryd.ntmps16
  go_wp2_with fail
  clear hW
  cases o with
  | none =>
    refine (HC.out W K.out).mono ?_
    rintro e w1 ⟨rfl, b1⟩
    have R1 := Lib.hid (blk_on b1 R.out)
    have F1 := Lib.hid (blk_on b1 F.out)
    have K1 := Lib.hid (K.out.trans (b1.mono K.out.size))
    clear b1 R F K
    have HE : Hid (endOf none = .panicked [{ v := gaveUp, recovered := false }]) := rfl
    rw [HE.out]
    go_wp2
    refine leaves_cons (f := 33) (args := #[.pointer (some ⟨w.heap.size, 0, none⟩), .pointer (some ⟨w.heap.size + 1, 0, none⟩)]) (by simp) (by simp [go_sem]) ?_
    refine (catch_panic w.heap.size _ _ _ _ _ _ _ _ _ _ _ (.bool false) _ _ [] w1 R1.out F1.out).mono ?_
    rintro e u' w2 ⟨rfl, rfl, rfl⟩
    have hb1 : (setAll w1 w.heap.size 0 TokV.zero.cells).heap[w.heap.size]? = some (.cells TokV.zero.cells.toArray 27) := setAll_whole R1.out rfl
    have hf1 : (setAll w1 w.heap.size 0 TokV.zero.cells).heap[w.heap.size + 1]? = some (.cells #[.bool false] 4) := setAll_away (by omega) _ 0 F1.out
    have kb : Below w.heap.size w (setAll w1 w.heap.size 0 TokV.zero.cells) := setAll_below (Nat.le_refl _) _ 0 K1.out
    generalize setAll w1 w.heap.size 0 TokV.zero.cells = V at hb1 hf1 kb ⊢
    have hb2 : (V.setCell ⟨w.heap.size + 1, 0, none⟩ (.bool false)).heap[w.heap.size]? = some (.cells TokV.zero.cells.toArray 27) := (Below.heap_setCell V ⟨w.heap.size + 1, 0, none⟩ (.bool false) w.heap.size (by show w.heap.size ≠ w.heap.size + 1; omega)).trans hb1
    have hf2 : (V.setCell ⟨w.heap.size + 1, 0, none⟩ (.bool false)).heap[w.heap.size + 1]? = some (.cells #[.bool false] 4) := setAll_whole (vs := [.bool false]) hf1 rfl
    have kb2 : Below w.heap.size w (V.setCell ⟨w.heap.size + 1, 0, none⟩ (.bool false)) := kb.setCell (p := ⟨w.heap.size + 1, 0, none⟩) (by show w.heap.size ≤ w.heap.size + 1; omega) _
    generalize V.setCell ⟨w.heap.size + 1, 0, none⟩ (.bool false) = V2 at hb2 hf2 kb2 ⊢
    exact ⟨_, results_two rfl rfl rfl hb2 (by kernel_rfl) hf2, rfl, kb2⟩
  | some t =>
    obtain ⟨ts, tb, tl, tm, ⟨⟨xu, xs, xh, xa⟩, xn, xt, xp⟩⟩ := t
    obtain ⟨C, hC⟩ : ∃ C : List Value, TokV.cells ⟨ts, tb, tl, tm, ⟨⟨xu, xs, xh, xa⟩, xn, xt, xp⟩⟩ = C := ⟨_, rfl⟩
    have HCS := Lib.hid hC
    clear hC
    refine (HC.out W K.out).mono ?_
    rintro e w1 ⟨rfl, b1⟩
    have R1 := Lib.hid (blk_on b1 R.out)
    have F1 := Lib.hid (blk_on b1 F.out)
    have K1 := Lib.hid (K.out.trans (b1.mono K.out.size))
    clear b1 R F K
    have HV : Hid (endOf (some ⟨ts, tb, tl, tm, ⟨⟨xu, xs, xh, xa⟩, xn, xt, xp⟩⟩) = .returned (.agg #[.int .i64 ts, .int .i64 tb, .int .i64 tl, .int .i64 tm, .int .i64 xu, .int .i64 xs, .int .i64 xh, .int .i64 xa, .int .i64 xn, .string xt, .bool xp])) := rfl
    rw [HV.out]
    obtain ⟨⟨c0, c1, c2, c3, c4, c5, c6, c7, c8, c9, c10⟩, f0, f1, f2, f3, f4, f5, f6, f7, f8, f9, f10⟩ := blk11 R1.out
    have q0 : w1.cell? ⟨w.heap.size + 1, 0, none⟩ = some (.bool false) := blk_cell F1.out 0
    have q1 := blk_frozen F1.out 0
    go_wp2
    refine leaves_cons (f := 33) (args := #[.pointer (some ⟨w.heap.size, 0, none⟩), .pointer (some ⟨w.heap.size + 1, 0, none⟩)]) (by simp) (by simp [go_sem]) ?_
    refine (catch_idle ⟨w.heap.size, 0, none⟩ ⟨w.heap.size + 1, 0, none⟩ _).mono ?_
    rintro e u' w2 ⟨rfl, rfl, rfl⟩
    change Leaves _ _ _ _ _ _ ((setAll w1 w.heap.size 0 (TokV.cells ⟨ts, tb, tl, tm, ⟨⟨xu, xs, xh, xa⟩, xn, xt, xp⟩⟩)).setCell ⟨w.heap.size + 1, 0, none⟩ (.bool true))
    rw [HCS.out]
    have hlen : C.length = 11 := by rw [← HCS.out]; rfl
    have hb1 : (setAll w1 w.heap.size 0 C).heap[w.heap.size]? = some (.cells C.toArray 27) := setAll_whole R1.out (by rw [hlen]; rfl)
    have hf1 : (setAll w1 w.heap.size 0 C).heap[w.heap.size + 1]? = some (.cells #[.bool false] 4) := setAll_away (by omega) _ 0 F1.out
    have kb : Below w.heap.size w (setAll w1 w.heap.size 0 C) := setAll_below (Nat.le_refl _) _ 0 K1.out
    generalize setAll w1 w.heap.size 0 C = V at hb1 hf1 kb ⊢
    have hb2 : (V.setCell ⟨w.heap.size + 1, 0, none⟩ (.bool true)).heap[w.heap.size]? = some (.cells C.toArray 27) := (Below.heap_setCell V ⟨w.heap.size + 1, 0, none⟩ (.bool true) w.heap.size (by show w.heap.size ≠ w.heap.size + 1; omega)).trans hb1
    have hf2 : (V.setCell ⟨w.heap.size + 1, 0, none⟩ (.bool true)).heap[w.heap.size + 1]? = some (.cells #[.bool true] 4) := setAll_whole (vs := [.bool true]) hf1 rfl
    have kb2 : Below w.heap.size w (V.setCell ⟨w.heap.size + 1, 0, none⟩ (.bool true)) := kb.setCell (p := ⟨w.heap.size + 1, 0, none⟩) (by show w.heap.size ≤ w.heap.size + 1; omega) _
    generalize V.setCell ⟨w.heap.size + 1, 0, none⟩ (.bool true) = V2 at hb2 hf2 kb2 ⊢
    exact ⟨_, results_two rfl rfl rfl hb2 (by rw [List.size_toArray, hlen]; kernel_rfl) hf2, by rw [← HCS.out]; rfl, kb2⟩

set_option maxHeartbeats 4000000 in
theorem newInner_any (g : Nat) (inn s b l m : Int) (h0 : I64 s) (h1 : I64 b) (h2 : I64 l) (h3 : I64 m) (w : World) (ht : Tab w) (hi : w.heap[g]? = some (.cells #[.int .i64 inn] 2)) (hs : w.heap[g + 1]? = some (.cells #[.int .i64 s] 2)) (hb : w.heap[g + 2]? = some (.cells #[.int .i64 b] 2)) (hl : w.heap[g + 3]? = some (.cells #[.int .i64 l] 2)) (hm : w.heap[g + 4]? = some (.cells #[.int .i64 m] 2)) :
    Calls Tryd.prog 17 #[.pointer (some ⟨g + 1, 0, none⟩), .pointer (some ⟨g + 2, 0, none⟩), .pointer (some ⟨g + 3, 0, none⟩), .pointer (some ⟨g + 4, 0, none⟩), .pointer (some ⟨g, 0, none⟩)] w fun e w' => e = endOf (newTokO inn s b l m) ∧ Below w.heap.size w w' := by
  obtain ⟨W, hW⟩ : ∃ W, w.alloc (.cells #[.int .i64 0, .int .i64 0, .int .i64 0, .int .i64 0, .int .i64 0, .int .i64 0, .int .i64 0, .int .i64 0, .int .i64 0, .string ⟨#[]⟩, .bool false] 27) = W := ⟨_, rfl⟩
  have K : Hid (Below w.heap.size w W) := by rw [← hW]; exact (Below.refl _ w).alloc (Nat.le_refl _) _
  have R : Hid (W.heap[w.heap.size]? = some (.cells #[.int .i64 0, .int .i64 0, .int .i64 0, .int .i64 0, .int .i64 0, .int .i64 0, .int .i64 0, .int .i64 0, .int .i64 0, .string ⟨#[]⟩, .bool false] 27)) := by rw [← hW]; exact heap1 w _
  have q0 : W.cell? ⟨g, 0, none⟩ = some (.int .i64 inn) := blk_cell (blk_on K.out hi) 0
  have q1 : W.cell? ⟨g + 1, 0, none⟩ = some (.int .i64 s) := blk_cell (blk_on K.out hs) 0
  have q2 : W.cell? ⟨g + 2, 0, none⟩ = some (.int .i64 b) := blk_cell (blk_on K.out hb) 0
  have q3 : W.cell? ⟨g + 3, 0, none⟩ = some (.int .i64 l) := blk_cell (blk_on K.out hl) 0
  have q4 : W.cell? ⟨g + 4, 0, none⟩ = some (.int .i64 m) := blk_cell (blk_on K.out hm) 0
  have H0 := Lib.hid h0
  have H1 := Lib.hid h1
  have H2 := Lib.hid h2
  have H3 := Lib.hid h3
  have HT := Lib.hid (ht.on K.out)
  obtain ⟨o, ho⟩ : ∃ o, newTokO inn s b l m = o := ⟨_, rfl⟩
  have HO := Lib.hid ho
  clear h0 h1 h2 h3 ht hi hs hb hl hm ho
  go_enter Tryd.func17, Tryd.ntmps17
  go_wp2_with fail
  clear hW q0 q1 q2 q3 q4
  refine (sealedBy_any inn s b l m H0.out H1.out H2.out H3.out _ HT.out).mono ?_
  rintro e w1 ⟨rfl, b1⟩
  rw [HO.out]
  have R1 := Lib.hid (blk_on b1 R.out)
  have K1 := Lib.hid (K.out.trans (b1.mono K.out.size))
  clear b1 R K
  cases o with
  | none =>
    have HE : Hid (endOf none = .panicked [{ v := gaveUp, recovered := false }]) := rfl
    rw [HE.out]
    go_wp2
    exact ⟨rfl, by rw [HO.out]; rfl, K1.out⟩
  | some t =>
    obtain ⟨ts, tb, tl, tm, ⟨⟨xu, xs, xh, xa⟩, xn, xt, xp⟩⟩ := t
    have HV : Hid (endOf (some ⟨ts, tb, tl, tm, ⟨⟨xu, xs, xh, xa⟩, xn, xt, xp⟩⟩) = .returned (.agg #[.int .i64 ts, .int .i64 tb, .int .i64 tl, .int .i64 tm, .int .i64 xu, .int .i64 xs, .int .i64 xh, .int .i64 xa, .int .i64 xn, .string xt, .bool xp])) := rfl
    rw [HV.out]
    obtain ⟨⟨c0, c1, c2, c3, c4, c5, c6, c7, c8, c9, c10⟩, f0, f1, f2, f3, f4, f5, f6, f7, f8, f9, f10⟩ := blk11 R1.out
    go_wp2
    refine row_ret (r := w.heap.size) (cs := List.toArray (TokV.cells ⟨ts, tb, tl, tm, ⟨⟨xu, xs, xh, xa⟩, xn, xt, xp⟩⟩)) rfl rfl (setAll_whole (w := w1) (vs := TokV.cells ⟨ts, tb, tl, tm, ⟨⟨xu, xs, xh, xa⟩, xn, xt, xp⟩⟩) R1.out rfl) Tryd.underlying27 rfl (by kernel_rfl) rfl ⟨by rw [HO.out]; rfl, setAll_below (w := w1) (Nat.le_refl _) (TokV.cells ⟨ts, tb, tl, tm, ⟨⟨xu, xs, xh, xa⟩, xn, xt, xp⟩⟩) 0 K1.out⟩

set_option maxHeartbeats 4000000 in
theorem NewToken_impl (inn s b l m : Int) (h0 : I64 s) (h1 : I64 b) (h2 : I64 l) (h3 : I64 m) (w : World) (ht : Tab w) :
    Calls Tryd.prog 6 #[.int .i64 inn, .int .i64 s, .int .i64 b, .int .i64 l, .int .i64 m] w fun e w' => e = .returned (.tuple #[(newTokV inn s b l m).val, .bool (newTokB inn s b l m)]) ∧ Below w.heap.size w w' := by
  have hmf : ∀ (fn : Fn) (first cap : Array Value) (w : World), (Instr.makeFunc fn first cap).run Tryd.prog w = .ok (.func fn first cap) w := fun _ _ _ _ => rfl
  obtain ⟨W, hW⟩ : ∃ W, ((((((w.alloc (.cells #[.int .i64 inn] 2)).alloc (.cells #[.int .i64 s] 2)).alloc (.cells #[.int .i64 b] 2)).alloc (.cells #[.int .i64 l] 2)).alloc (.cells #[.int .i64 m] 2)).alloc (.cells #[.int .i64 0, .int .i64 0, .int .i64 0, .int .i64 0, .int .i64 0, .int .i64 0, .int .i64 0, .int .i64 0, .int .i64 0, .string ⟨#[]⟩, .bool false] 27)) = W := ⟨_, rfl⟩
  have K : Hid (Below w.heap.size w W) := by rw [← hW]; exact ((((((Below.refl _ w).alloc (Nat.le_refl _) _).alloc (by simp) _).alloc (by simp <;> omega) _).alloc (by simp <;> omega) _).alloc (by simp <;> omega) _).alloc (by simp <;> omega) _
  have B0 : Hid (W.heap[w.heap.size]? = some (.cells #[.int .i64 inn] 2)) := by rw [← hW]; exact alloc_blk (alloc_blk (alloc_blk (alloc_blk (alloc_blk (heap1 w _)))))
  have B1 : Hid (W.heap[w.heap.size + 1]? = some (.cells #[.int .i64 s] 2)) := by rw [← hW]; exact alloc_blk (alloc_blk (alloc_blk (alloc_blk ((by have h := heap1 (w.alloc (.cells #[.int .i64 inn] 2)) (.cells #[.int .i64 s] 2); simp only [World.size_alloc] at h; exact h)))))
  have B2 : Hid (W.heap[w.heap.size + 2]? = some (.cells #[.int .i64 b] 2)) := by rw [← hW]; exact alloc_blk (alloc_blk (alloc_blk ((by have h := heap1 ((w.alloc (.cells #[.int .i64 inn] 2)).alloc (.cells #[.int .i64 s] 2)) (.cells #[.int .i64 b] 2); simp only [World.size_alloc] at h; exact h))))
  have B3 : Hid (W.heap[w.heap.size + 3]? = some (.cells #[.int .i64 l] 2)) := by rw [← hW]; exact alloc_blk (alloc_blk ((by have h := heap1 (((w.alloc (.cells #[.int .i64 inn] 2)).alloc (.cells #[.int .i64 s] 2)).alloc (.cells #[.int .i64 b] 2)) (.cells #[.int .i64 l] 2); simp only [World.size_alloc] at h; exact h)))
  have B4 : Hid (W.heap[w.heap.size + 4]? = some (.cells #[.int .i64 m] 2)) := by rw [← hW]; exact alloc_blk ((by have h := heap1 ((((w.alloc (.cells #[.int .i64 inn] 2)).alloc (.cells #[.int .i64 s] 2)).alloc (.cells #[.int .i64 b] 2)).alloc (.cells #[.int .i64 l] 2)) (.cells #[.int .i64 m] 2); simp only [World.size_alloc] at h; exact h))
  have R : Hid (W.heap[w.heap.size + 5]? = some (.cells #[.int .i64 0, .int .i64 0, .int .i64 0, .int .i64 0, .int .i64 0, .int .i64 0, .int .i64 0, .int .i64 0, .int .i64 0, .string ⟨#[]⟩, .bool false] 27)) := by rw [← hW]; exact (by have h := heap1 (((((w.alloc (.cells #[.int .i64 inn] 2)).alloc (.cells #[.int .i64 s] 2)).alloc (.cells #[.int .i64 b] 2)).alloc (.cells #[.int .i64 l] 2)).alloc (.cells #[.int .i64 m] 2)) (.cells #[.int .i64 0, .int .i64 0, .int .i64 0, .int .i64 0, .int .i64 0, .int .i64 0, .int .i64 0, .int .i64 0, .int .i64 0, .string ⟨#[]⟩, .bool false] 27); simp only [World.size_alloc] at h; exact h)
  have HT := Lib.hid (ht.on K.out)
  have hc := Lib.hid (fun (w' : World) (hw' : Below W.heap.size W w') => newInner_any w.heap.size inn s b l m h0 h1 h2 h3 w' (HT.out.on hw') (blk_on hw' B0.out) (blk_on hw' B1.out) (blk_on hw' B2.out) (blk_on hw' B3.out) (blk_on hw' B4.out))
  obtain ⟨⟨ts, tb, tl, tm, ⟨⟨xu, xs, xh, xa⟩, xn, xt, xp⟩⟩, hv⟩ : ∃ x, newTokV inn s b l m = x := ⟨_, rfl⟩
  have HN := Lib.hid (newTokO_val inn s b l m)
  have HV := Lib.hid hv
  have HW := Lib.hid hW
  clear h0 h1 h2 h3 ht hv
  go_enter Tryd.func6, Tryd.ntmps6
  go_wp2_with fail
  clear hW
  refine (face_new _ (newTokO inn s b l m) W hc.out).mono ?_
  rintro e w1 ⟨rfl, b1⟩
  have R1 := Lib.hid (blk_on b1 R.out)
  have K1 := Lib.hid (K.out.trans (b1.mono K.out.size))
  clear b1 R K B0 B1 B2 B3 B4
  rw [HN.out.1, HN.out.2, HV.out]
  have HVV : Hid (TokV.val ⟨ts, tb, tl, tm, ⟨⟨xu, xs, xh, xa⟩, xn, xt, xp⟩⟩ = .agg #[.int .i64 ts, .int .i64 tb, .int .i64 tl, .int .i64 tm, .int .i64 xu, .int .i64 xs, .int .i64 xh, .int .i64 xa, .int .i64 xn, .string xt, .bool xp]) := rfl
  rw [HVV.out]
  obtain ⟨⟨c0, c1, c2, c3, c4, c5, c6, c7, c8, c9, c10⟩, f0, f1, f2, f3, f4, f5, f6, f7, f8, f9, f10⟩ := blk11 R1.out
  go_wp2
  refine row_ret2 (r := w.heap.size + 5) (cs := List.toArray (TokV.cells ⟨ts, tb, tl, tm, ⟨⟨xu, xs, xh, xa⟩, xn, xt, xp⟩⟩)) rfl rfl rfl (setAll_whole (w := w1) (vs := TokV.cells ⟨ts, tb, tl, tm, ⟨⟨xu, xs, xh, xa⟩, xn, xt, xp⟩⟩) R1.out rfl) Tryd.underlying27 rfl (by kernel_rfl) rfl ⟨by rw [HV.out]; rfl, setAll_below (w := w1) (by omega) (TokV.cells ⟨ts, tb, tl, tm, ⟨⟨xu, xs, xh, xa⟩, xn, xt, xp⟩⟩) 0 K1.out⟩

end Go.Proofs.YtibfifmaclchaaaDoor.Tx

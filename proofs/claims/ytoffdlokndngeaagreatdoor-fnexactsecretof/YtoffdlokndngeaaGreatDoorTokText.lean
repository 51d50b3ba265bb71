/-
  What l6Text and NewToken of the model answer. Condition: the numbers are int64.
-/
import Derived.Test.YtoffdlokndngeaaGreatDoorNum
import Derived.Test.YtoffdlokndngeaaGreatDoorTok
import Derived.Test.YtoffdlokndngeaaGreatDoorOwn
import Derived.Test.YtoffdlokndngeaaGreatDoorRegionO
namespace Go.Proofs.YtoffdlokndngeaaGreatDoor.Tx
open Go.RowKit

/-- Are they int64? -/
def I64 (n : Int) : Prop := -9223372036854775808 ≤ n ∧ n ≤ 9223372036854775807
/-- What is written in a token's seal. -/
def tokTxt (s b l m : Int) : ByteArray := joinT ⟨#[45]⟩ [intT s, intT b, intT l, intT m]
/-- A new token: its seal, whether it is right, and what is handed back. -/
def sealBox (inn s b l m : Int) : BoxV := ⟨rightK ⟨6, inn, 0, 0⟩, 0, tokTxt s b l m, false⟩
def newTokB (inn s b l m : Int) : Bool := boxOkB (sealBox inn s b l m) && tokOkB ⟨s, b, l, m, lockV (sealBox inn s b l m)⟩
def newTokV (inn s b l m : Int) : TokV := if newTokB inn s b l m then ⟨s, b, l, m, lockV (sealBox inn s b l m)⟩ else .zero

set_option maxHeartbeats 4000000 in
theorem l6Text_any (t : TokV) (h0 : I64 t.s) (h1 : I64 t.b) (h2 : I64 t.l) (h3 : I64 t.m) (w : World) : Calls Tryz.prog 137 #[t.val] w fun e w' => e = .returned (.string (tokTxt t.s t.b t.l t.m)) ∧ Below w.heap.size w w' := by
  obtain ⟨ts, tb, tl, tm, ⟨⟨xu, xs, xh, xa⟩, xn, xt, xp⟩⟩ := t
  have HV : Hid (TokV.val ⟨ts, tb, tl, tm, ⟨⟨xu, xs, xh, xa⟩, xn, xt, xp⟩⟩ = .agg #[.int .i64 ts, .int .i64 tb, .int .i64 tl, .int .i64 tm, .int .i64 xu, .int .i64 xs, .int .i64 xh, .int .i64 xa, .int .i64 xn, .string xt, .bool xp]) := rfl
  rw [HV.out]
  dsimp only at h0 h1 h2 h3 ⊢
  obtain ⟨W, hW⟩ : ∃ W, w.alloc (.cells #[.int .i64 ts, .int .i64 tb, .int .i64 tl, .int .i64 tm, .int .i64 xu, .int .i64 xs, .int .i64 xh, .int .i64 xa, .int .i64 xn, .string xt, .bool xp] 39) = W := ⟨_, rfl⟩
  have K : Hid (Below w.heap.size w W) := by rw [← hW]; exact (Below.refl _ w).alloc (Nat.le_refl _) _
  have GT : Hid (W.heap[w.heap.size]? = some (.cells #[.int .i64 ts, .int .i64 tb, .int .i64 tl, .int .i64 tm, .int .i64 xu, .int .i64 xs, .int .i64 xh, .int .i64 xa, .int .i64 xn, .string xt, .bool xp] 39)) := by rw [← hW]; exact heap1 w _
  obtain ⟨z0, e0⟩ : ∃ z, intT ts = z := ⟨_, rfl⟩
  obtain ⟨z1, e1⟩ : ∃ z, intT tb = z := ⟨_, rfl⟩
  obtain ⟨z2, e2⟩ : ∃ z, intT tl = z := ⟨_, rfl⟩
  obtain ⟨z3, e3⟩ : ∃ z, intT tm = z := ⟨_, rfl⟩
  have s0 := intT_size ts h0
  have s1 := intT_size tb h1
  have s2 := intT_size tl h2
  have s3 := intT_size tm h3
  rw [e0] at s0
  rw [e1] at s1
  rw [e2] at s2
  rw [e3] at s3
  have HT : Hid (tokTxt ts tb tl tm = joinT ⟨#[45]⟩ [z0, z1, z2, z3]) := by show joinT ⟨#[45]⟩ [intT ts, intT tb, intT tl, intT tm] = _; rw [e0, e1, e2, e3]
  have c0 : Hid (∀ w' : World, Calls Tryz.prog 83 #[.int .i64 ts] w' fun e w'' => e = .returned (.string z0) ∧ Below w'.heap.size w' w'') := fun w' => by have := l1Int_any ts h0 w'; rwa [e0] at this
  have c1 : Hid (∀ w' : World, Calls Tryz.prog 83 #[.int .i64 tb] w' fun e w'' => e = .returned (.string z1) ∧ Below w'.heap.size w' w'') := fun w' => by have := l1Int_any tb h1 w'; rwa [e1] at this
  have c2 : Hid (∀ w' : World, Calls Tryz.prog 83 #[.int .i64 tl] w' fun e w'' => e = .returned (.string z2) ∧ Below w'.heap.size w' w'') := fun w' => by have := l1Int_any tl h2 w'; rwa [e2] at this
  have c3 : Hid (∀ w' : World, Calls Tryz.prog 83 #[.int .i64 tm] w' fun e w'' => e = .returned (.string z3) ∧ Below w'.heap.size w' w'') := fun w' => by have := l1Int_any tm h3 w'; rwa [e3] at this
  clear e0 e1 e2 e3 h0 h1 h2 h3
  go_enter Tryz.func137, Tryz.ntmps137
  go_wp2
  clear hW
  refine wp_region_own (W := W) [] (fun _ => True) stays_true trivial [0, 0, 1, 0, 0, 1, 0, 0, 1, 0, 0, 1, 2, 1, 0] (by kernel_rfl) (by kernel_rfl) (by kernel_rfl) ?_
  have fk : ∀ q : In (plainEnv W []), _ := fun q => (blk11 (q.block GT.out (by simp))).1
  refine wpO_quiet 2 rfl (by kernel_rfl) ?_
  simp only [List.take, List.drop]
  repeat (go_big_quiet_step (fail))
  refine wpQuiet_nil ?_
  refine wpO_call (f := 83) (args := #[.int .i64 ts]) (.string z0) rfl (fun w' => by simp [go_sem]) (fun w' _ _ => c0.out w') ?_
  simp only [Act.put, List.setIfInBounds_toArray, List.set_cons_succ, List.set_cons_zero]
  refine wpO_quiet 2 rfl (by kernel_rfl) ?_
  simp only [List.take, List.drop]
  repeat (go_big_quiet_step (fail))
  refine wpQuiet_nil ?_
  refine wpO_call (f := 83) (args := #[.int .i64 tb]) (.string z1) rfl (fun w' => by simp [go_sem]) (fun w' _ _ => c1.out w') ?_
  simp only [Act.put, List.setIfInBounds_toArray, List.set_cons_succ, List.set_cons_zero]
  refine wpO_quiet 2 rfl (by kernel_rfl) ?_
  simp only [List.take, List.drop]
  repeat (go_big_quiet_step (fail))
  refine wpQuiet_nil ?_
  refine wpO_call (f := 83) (args := #[.int .i64 tl]) (.string z2) rfl (fun w' => by simp [go_sem]) (fun w' _ _ => c2.out w') ?_
  simp only [Act.put, List.setIfInBounds_toArray, List.set_cons_succ, List.set_cons_zero]
  refine wpO_quiet 2 rfl (by kernel_rfl) ?_
  simp only [List.take, List.drop]
  repeat (go_big_quiet_step (fail))
  refine wpQuiet_nil ?_
  refine wpO_call (f := 83) (args := #[.int .i64 tm]) (.string z3) rfl (fun w' => by simp [go_sem]) (fun w' _ _ => c3.out w') ?_
  simp only [Act.put, List.setIfInBounds_toArray, List.set_cons_succ, List.set_cons_zero]
  refine wpO_row (.cells #[.string z0, .string z1, .string z2, .string z3] 9) 4 rfl (fun w' => by simp [go_sem]) fun g mg _ => ?_
  simp only [Act.put, List.setIfInBounds_toArray, List.set_cons_succ, List.set_cons_zero]
  refine wpO_call (f := 152) (args := #[.slice (some ⟨g, 0, none⟩) 4 4, .string ⟨#[45]⟩]) (.string (joinT ⟨#[45]⟩ [z0, z1, z2, z3])) rfl (fun w' => by simp [go_sem]) (fun w' _ hF => ?_) ?_
  · have hst : Strs w' w'.heap.size (some ⟨g, 0, none⟩) 4 [z0, z1, z2, z3] := ⟨rfl, fun _ => ⟨g, 0, rfl, blk_in hF.2, fun j hj => by
      rw [Nat.zero_add, blk_cell hF.2]
      have hj' : j = 0 ∨ j = 1 ∨ j = 2 ∨ j = 3 := by omega
      rcases hj' with rfl | rfl | rfl | rfl <;> rfl⟩⟩
    exact (l1Words_any _ 4 4 [z0, z1, z2, z3] ⟨#[45]⟩ (by decide) w' hst (by omega) (by simp [sumB]; omega)).mono fun e w'' ⟨he, hw⟩ => ⟨he, hw ▸ Below.refl _ _⟩
  simp only [Act.put, List.setIfInBounds_toArray, List.set_cons_succ, List.set_cons_zero]
  refine wpO_quiet 1 rfl (by kernel_rfl) ?_
  simp only [List.take, List.drop]
  repeat (go_big_quiet_step (fail))
  refine wpQuiet_nil ?_
  refine wpO_nil ?_
  rintro w1 b1 _
  have B1 := Lib.hid (K.out.trans ((kept_below b1).mono K.out.size))
  clear fk b1
  go_wp2
  go_ret
  exact ⟨by rw [HT.out]; rfl, B1.out⟩

set_option maxHeartbeats 4000000 in
theorem NewToken_spec (inn s b l m : Int) (h0 : I64 s) (h1 : I64 b) (h2 : I64 l) (h3 : I64 m) (w : World) :
    Calls Tryz.prog 115 #[.int .i64 inn, .int .i64 s, .int .i64 b, .int .i64 l, .int .i64 m] w fun e w' => e = .returned (.tuple #[(newTokV inn s b l m).val, .bool (newTokB inn s b l m)]) ∧ Below w.heap.size w w' := by
  obtain ⟨W, hW⟩ : ∃ W, (w.alloc (.cells #[.int .i64 0, .int .i64 0, .int .i64 0, .int .i64 0, .int .i64 0, .int .i64 0, .int .i64 0, .int .i64 0, .int .i64 0, .string ⟨#[]⟩, .bool false] 39)).alloc (.cells #[.int .i64 s, .int .i64 b, .int .i64 l, .int .i64 m, .int .i64 0, .int .i64 0, .int .i64 0, .int .i64 0, .int .i64 0, .string ⟨#[]⟩, .bool false] 39) = W := ⟨_, rfl⟩
  have K : Hid (Below w.heap.size w W) := by rw [← hW]; exact ((Below.refl _ w).alloc (Nat.le_refl _) _).alloc (by simp) _
  have R : Hid (W.heap[w.heap.size]? = some (.cells #[.int .i64 0, .int .i64 0, .int .i64 0, .int .i64 0, .int .i64 0, .int .i64 0, .int .i64 0, .int .i64 0, .int .i64 0, .string ⟨#[]⟩, .bool false] 39)) := by rw [← hW]; exact heap2a w _ _
  have T : Hid (W.heap[w.heap.size + 1]? = some (.cells #[.int .i64 s, .int .i64 b, .int .i64 l, .int .i64 m, .int .i64 0, .int .i64 0, .int .i64 0, .int .i64 0, .int .i64 0, .string ⟨#[]⟩, .bool false] 39)) := by rw [← hW]; exact heap2b w _ _
  have sW : w.heap.size + 1 < W.heap.size := blk_in T.out
  have HWW := Lib.hid hW
  clear hW
  obtain ⟨⟨ku, ks, kh, ka⟩, hk⟩ : ∃ x, rightK ⟨6, inn, 0, 0⟩ = x := ⟨_, rfl⟩
  obtain ⟨z, hz⟩ : ∃ z, tokTxt s b l m = z := ⟨_, rfl⟩
  obtain ⟨⟨⟨xu, xs, xh, xa⟩, xn, xt, xp⟩, hx⟩ : ∃ x, lockV ⟨⟨ku, ks, kh, ka⟩, 0, z, false⟩ = x := ⟨_, rfl⟩
  obtain ⟨is, his⟩ : ∃ x, boxOkB ⟨⟨ku, ks, kh, ka⟩, 0, z, false⟩ = x := ⟨_, rfl⟩
  have HSB : Hid (sealBox inn s b l m = ⟨⟨ku, ks, kh, ka⟩, 0, z, false⟩) := by show BoxV.mk _ _ _ _ = _; rw [hk, hz]
  have cK : Hid (∀ w' : World, Calls Tryz.prog 79 #[.int .i64 inn] w' fun e w'' => e = .returned (.agg #[.int .i64 ku, .int .i64 ks, .int .i64 kh, .int .i64 ka]) ∧ Below w'.heap.size w' w'') := fun w' => by have := TokenKey_spec inn w'; rw [hk] at this; exact this
  have cT : Hid (∀ w' : World, Calls Tryz.prog 137 #[.agg #[.int .i64 s, .int .i64 b, .int .i64 l, .int .i64 m, .int .i64 0, .int .i64 0, .int .i64 0, .int .i64 0, .int .i64 0, .string ⟨#[]⟩, .bool false]] w' fun e w'' => e = .returned (.string z) ∧ Below w'.heap.size w' w'') := fun w' => by have := l6Text_any ⟨s, b, l, m, .zero⟩ h0 h1 h2 h3 w'; dsimp only at this; rw [hz] at this; exact this
  have cL : Hid (∀ w' : World, Calls Tryz.prog 117 #[.agg #[.int .i64 ku, .int .i64 ks, .int .i64 kh, .int .i64 ka], .int .i64 0, .string z] w' fun e w'' => e = .returned (.tuple #[.agg #[.int .i64 xu, .int .i64 xs, .int .i64 xh, .int .i64 xa, .int .i64 xn, .string xt, .bool xp], .bool is]) ∧ Below w'.heap.size w' w'') := fun w' => by have := Locked_spec ⟨ku, ks, kh, ka⟩ 0 z w'; rw [hx, his] at this; exact this
  have HIS := Lib.hid his
  have HX := Lib.hid hx
  clear hk hz hx his
  go_enter Tryz.func115, Tryz.ntmps115
  go_wp2
  rw [HWW.out]
  refine wp_region_own (W := W) [] (fun _ => True) stays_true trivial [0, 1, 0, 1, 1, 0, 0, 0, 2, 3, 0] (by kernel_rfl) (by kernel_rfl) (by kernel_rfl) ?_
  have fk : ∀ q : In (plainEnv W []), _ := fun q => (blk11 (q.block T.out (by simp))).1
  refine wpO_quiet 1 rfl (by kernel_rfl) ?_
  simp only [List.take, List.drop]
  repeat (go_big_quiet_step (fail))
  refine wpQuiet_nil ?_
  refine wpO_call (f := 79) (args := #[.int .i64 inn]) (.agg #[.int .i64 ku, .int .i64 ks, .int .i64 kh, .int .i64 ka]) rfl (fun w' => by simp [go_sem]) (fun w' _ _ => cK.out w') ?_
  simp only [Act.put, List.setIfInBounds_toArray, List.set_cons_succ, List.set_cons_zero]
  refine wpO_quiet 1 rfl (by kernel_rfl) ?_
  simp only [List.take, List.drop]
  repeat (go_big_quiet_step (fail))
  refine wpQuiet_nil ?_
  refine wpO_call (f := 137) (args := #[.agg #[.int .i64 s, .int .i64 b, .int .i64 l, .int .i64 m, .int .i64 0, .int .i64 0, .int .i64 0, .int .i64 0, .int .i64 0, .string ⟨#[]⟩, .bool false]]) (.string z) rfl (fun w' => by simp [go_sem]) (fun w' _ _ => cT.out w') ?_
  simp only [Act.put, List.setIfInBounds_toArray, List.set_cons_succ, List.set_cons_zero]
  refine wpO_call (f := 117) (args := #[.agg #[.int .i64 ku, .int .i64 ks, .int .i64 kh, .int .i64 ka], .int .i64 0, .string z]) (.tuple #[.agg #[.int .i64 xu, .int .i64 xs, .int .i64 xh, .int .i64 xa, .int .i64 xn, .string xt, .bool xp], .bool is]) rfl (fun w' => by simp [go_sem]) (fun w' _ _ => cL.out w') ?_
  simp only [Act.put, List.setIfInBounds_toArray, List.set_cons_succ, List.set_cons_zero]
  refine wpO_quiet 3 rfl (by kernel_rfl) ?_
  simp only [List.take, List.drop]
  repeat (go_big_quiet_step (fail))
  refine wpQuiet_nil ?_
  refine wpO_alloc (.cells #[.int .i64 0, .int .i64 0, .int .i64 0, .int .i64 0, .int .i64 0, .string ⟨#[]⟩, .bool false] 30) rfl (fun w' => by simp [go_sem]) fun g mg _ => ?_
  have hg : W.heap.size ≤ g := mg
  simp only [Act.put, List.setIfInBounds_toArray, List.set_cons_succ, List.set_cons_zero]
  refine wpO_store (g := g) (t := 30) (old := #[.int .i64 0, .int .i64 0, .int .i64 0, .int .i64 0, .int .i64 0, .string ⟨#[]⟩, .bool false]) (fun _ => True) #[.int .i64 xu, .int .i64 xs, .int .i64 xh, .int .i64 xa, .int .i64 xn, .string xt, .bool xp] rfl rfl rfl rfl (Env.own _ mg) (by kernel_rfl) rfl rfl (fun w' h => ⟨trivial, h.2⟩) stays_true (away_true _) ?_
  simp only [Act.put]
  refine wpO_quiet 1 rfl (by kernel_rfl) ?_
  simp only [List.take, List.drop]
  repeat (go_big_quiet_step (fail))
  refine wpQuiet_nil ?_
  refine wpO_nil ?_
  rintro w1 b1' ⟨_, hX1⟩
  have b1 := kept_below b1'
  have R1 := Lib.hid (blk_on b1 R.out)
  have T1 := Lib.hid (blk_on b1 T.out)
  have K1 := Lib.hid (K.out.trans (b1.mono K.out.size))
  have X1 := Lib.hid hX1
  clear fk b1 b1' hX1 R T K
  obtain ⟨⟨c0, c1, c2, c3, c4, c5, c6⟩, _⟩ := blk7 X1.out
  obtain ⟨⟨d0, d1, d2, d3, d4, d5, d6, d7, d8, d9, d10⟩, f0, f1, f2, f3, f4, f5, f6, f7, f8, f9, f10⟩ := blk11 T1.out
  obtain ⟨W2, hW2⟩ : ∃ W2, setAll w1 (w.heap.size + 1) 4 (BoxV.cells ⟨⟨xu, xs, xh, xa⟩, xn, xt, xp⟩) = W2 := ⟨_, rfl⟩
  have R2 : Hid (W2.heap[w.heap.size]? = some (.cells #[.int .i64 0, .int .i64 0, .int .i64 0, .int .i64 0, .int .i64 0, .int .i64 0, .int .i64 0, .int .i64 0, .int .i64 0, .string ⟨#[]⟩, .bool false] 39)) := by rw [← hW2]; exact setAll_away (by omega) _ 4 R1.out
  have eT : overA #[.int .i64 s, .int .i64 b, .int .i64 l, .int .i64 m, .int .i64 0, .int .i64 0, .int .i64 0, .int .i64 0, .int .i64 0, .string ⟨#[]⟩, .bool false] 4 (BoxV.cells ⟨⟨xu, xs, xh, xa⟩, xn, xt, xp⟩) = #[.int .i64 s, .int .i64 b, .int .i64 l, .int .i64 m, .int .i64 xu, .int .i64 xs, .int .i64 xh, .int .i64 xa, .int .i64 xn, .string xt, .bool xp] := Array.toList_inj.1 ((overA_toList (BoxV.cells ⟨⟨xu, xs, xh, xa⟩, xn, xt, xp⟩) 4 #[.int .i64 s, .int .i64 b, .int .i64 l, .int .i64 m, .int .i64 0, .int .i64 0, .int .i64 0, .int .i64 0, .int .i64 0, .string ⟨#[]⟩, .bool false] (by show 4 + 7 ≤ 11; omega)).trans rfl)
  have T2 : Hid (W2.heap[w.heap.size + 1]? = some (.cells #[.int .i64 s, .int .i64 b, .int .i64 l, .int .i64 m, .int .i64 xu, .int .i64 xs, .int .i64 xh, .int .i64 xa, .int .i64 xn, .string xt, .bool xp] 39)) := by show _ = _; rw [← hW2, setAll_blk (BoxV.cells ⟨⟨xu, xs, xh, xa⟩, xn, xt, xp⟩) 4 T1.out, eT]
  clear eT
  have K2 : Hid (Below w.heap.size w W2) := by rw [← hW2]; exact setAll_below (by omega) _ 4 K1.out
  have hW : (((((((w1.setCell ⟨w.heap.size + 1, 4, none⟩ (.int .i64 xu)).setCell ⟨w.heap.size + 1, 5, none⟩ (.int .i64 xs)).setCell ⟨w.heap.size + 1, 6, none⟩ (.int .i64 xh)).setCell ⟨w.heap.size + 1, 7, none⟩ (.int .i64 xa)).setCell ⟨w.heap.size + 1, 8, none⟩ (.int .i64 xn)).setCell ⟨w.heap.size + 1, 9, none⟩ (.string xt)).setCell ⟨w.heap.size + 1, 10, none⟩ (.bool xp)) = W2 := hW2
  clear hW2 R1 T1 K1
  cases is with
  | false =>
    have HE : Hid (newTokB inn s b l m = false) := by show _ = _; rw [newTokB, HSB.out, HIS.out]; rfl
    have HE2 : Hid (newTokV inn s b l m = .zero) := by show _ = _; rw [newTokV, HE.out]; rfl
    obtain ⟨⟨g0, g1, g2, g3, g4, g5, g6, g7, g8, g9, g10⟩, k0, k1, k2, k3, k4, k5, k6, k7, k8, k9, k10⟩ := blk11 R2.out
    go_wp2
    refine row_ret2 (r := w.heap.size) (cs := List.toArray TokV.zero.cells) rfl rfl rfl (setAll_whole (w := W2) (vs := TokV.zero.cells) R2.out rfl) Tryz.underlying39 rfl (by kernel_rfl) rfl ⟨?_, setAll_below (w := W2) (Nat.le_refl _) TokV.zero.cells 0 K2.out⟩
    rw [HE.out, HE2.out]; rfl
  | true =>
    obtain ⟨⟨g0, g1, g2, g3, g4, g5, g6, g7, g8, g9, g10⟩, _⟩ := blk11 T2.out
    go_wp2_with fail
    clear hW c0 c1 c2 c3 c4 c5 c6 d0 f0 g0 d1 f1 g1 d2 f2 g2 d3 f3 g3 d4 f4 g4 d5 f5 g5 d6 f6 g6 d7 f7 g7 d8 f8 g8 d9 f9 g9 d10 f10 g10
    refine (TokenOk_spec ⟨s, b, l, m, ⟨⟨xu, xs, xh, xa⟩, xn, xt, xp⟩⟩ _).mono ?_
    rintro e w3 ⟨rfl, b3⟩
    have R3 := Lib.hid (blk_on b3 R2.out)
    have T3 := Lib.hid (blk_on b3 T2.out)
    have K3 := Lib.hid (K2.out.trans (b3.mono K2.out.size))
    clear b3 R2 T2 K2
    have HN : Hid (newTokB inn s b l m = tokOkB ⟨s, b, l, m, ⟨⟨xu, xs, xh, xa⟩, xn, xt, xp⟩⟩) := by show _ = _; rw [newTokB, HSB.out, HIS.out, HX.out]; rfl
    obtain ⟨⟨g0, g1, g2, g3, g4, g5, g6, g7, g8, g9, g10⟩, k0, k1, k2, k3, k4, k5, k6, k7, k8, k9, k10⟩ := blk11 R3.out
    obtain ⟨⟨d0, d1, d2, d3, d4, d5, d6, d7, d8, d9, d10⟩, _⟩ := blk11 T3.out
    cases hok : tokOkB ⟨s, b, l, m, ⟨⟨xu, xs, xh, xa⟩, xn, xt, xp⟩⟩ with
    | false =>
      have HE2 : Hid (newTokV inn s b l m = .zero) := by show _ = _; rw [newTokV, HN.out, hok]; rfl
      go_wp2
      refine row_ret2 (r := w.heap.size) (cs := List.toArray TokV.zero.cells) rfl rfl rfl (setAll_whole (w := w3) (vs := TokV.zero.cells) R3.out rfl) Tryz.underlying39 rfl (by kernel_rfl) rfl ⟨?_, setAll_below (w := w3) (Nat.le_refl _) TokV.zero.cells 0 K3.out⟩
      rw [HN.out, hok, HE2.out]; rfl
    | true =>
      have HE2 : Hid (newTokV inn s b l m = ⟨s, b, l, m, ⟨⟨xu, xs, xh, xa⟩, xn, xt, xp⟩⟩) := by show _ = _; rw [newTokV, HN.out, hok, if_pos rfl, HSB.out, HX.out]
      go_wp2
      refine row_ret2 (r := w.heap.size) (cs := List.toArray (TokV.cells ⟨s, b, l, m, ⟨⟨xu, xs, xh, xa⟩, xn, xt, xp⟩⟩)) rfl rfl rfl (setAll_whole (w := w3) (vs := TokV.cells ⟨s, b, l, m, ⟨⟨xu, xs, xh, xa⟩, xn, xt, xp⟩⟩) R3.out rfl) Tryz.underlying39 rfl (by kernel_rfl) rfl ⟨?_, setAll_below (w := w3) (Nat.le_refl _) (TokV.cells ⟨s, b, l, m, ⟨⟨xu, xs, xh, xa⟩, xn, xt, xp⟩⟩) 0 K3.out⟩
      rw [HN.out, hok, HE2.out]; rfl

end Go.Proofs.YtoffdlokndngeaaGreatDoor.Tx

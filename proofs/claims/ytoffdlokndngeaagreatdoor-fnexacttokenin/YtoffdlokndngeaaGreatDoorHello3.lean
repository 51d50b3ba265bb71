/-
  What l9Bit, l9Text and Binds of the model answer. Condition: an age is an int64.
-/
import Derived.Test.YtoffdlokndngeaaGreatDoorHello
import Derived.Test.YtoffdlokndngeaaGreatDoorNum
import Derived.Test.YtoffdlokndngeaaGreatDoorRegionR
namespace Go.Proofs.YtoffdlokndngeaaGreatDoor.Tx
open Go.RowKit

/-- 1 of true, 0 of false. -/
def bitI (b : Bool) : Int := if b then 1 else 0
/-- What is written in a Bind. -/
def bindT (g : Int) (ea : Bool) : ByteArray := intT g ++ ⟨#[45]⟩ ++ intT (bitI ea)
def sameT (s t : ByteArray) : Bool := s.toList == t.toList
/-- Does it bind by that secret? -/
def bindsB (q : HelV) (s : Int) : Bool := (helOkB q && !bareB q) && (openB q.y (rightK ⟨2, s, q.d, 0⟩) (bitI q.ag) && sameT (openT q.y (rightK ⟨2, s, q.d, 0⟩) (bitI q.ag)) (bindT q.g q.ea))
theorem bit_i64 (b : Bool) : -9223372036854775808 ≤ bitI b ∧ bitI b ≤ 9223372036854775807 := by cases b <;> decide

theorem l9Bit_any (b : Bool) (w : World) : Calls Tryz.prog 48 #[.bool b] w fun e w' => e = .returned (.int .i64 (bitI b)) ∧ w = w' := by
  go_enter Tryz.func48, Tryz.ntmps48
  cases b with
  | false =>
    go_wp2
    go_ret
    exact ⟨rfl, rfl⟩
  | true =>
    go_wp2
    go_ret
    exact ⟨rfl, rfl⟩

set_option maxHeartbeats 4000000 in
theorem l9Text_any (q : HelV) (hg : -9223372036854775808 ≤ q.g ∧ q.g ≤ 9223372036854775807) (w : World) : Calls Tryz.prog 49 #[q.val] w fun e w' => e = .returned (.string (bindT q.g q.ea)) ∧ Below w.heap.size w w' := by
  obtain ⟨d, ag, ⟨⟨xu, xs, xh, xa⟩, xn, xt, xp⟩, g, ⟨⟨yu, ys, yh, ya⟩, yn, yt, yp⟩, ea⟩ := q
  have HV : Hid (HelV.val ⟨d, ag, ⟨⟨xu, xs, xh, xa⟩, xn, xt, xp⟩, g, ⟨⟨yu, ys, yh, ya⟩, yn, yt, yp⟩, ea⟩ = .agg #[.int .i64 d, .bool ag, .int .i64 xu, .int .i64 xs, .int .i64 xh, .int .i64 xa, .int .i64 xn, .string xt, .bool xp, .int .i64 g, .int .i64 yu, .int .i64 ys, .int .i64 yh, .int .i64 ya, .int .i64 yn, .string yt, .bool yp, .bool ea]) := rfl
  rw [HV.out]
  dsimp only at hg ⊢
  obtain ⟨W, hW⟩ : ∃ W, w.alloc (.cells #[.int .i64 d, .bool ag, .int .i64 xu, .int .i64 xs, .int .i64 xh, .int .i64 xa, .int .i64 xn, .string xt, .bool xp, .int .i64 g, .int .i64 yu, .int .i64 ys, .int .i64 yh, .int .i64 ya, .int .i64 yn, .string yt, .bool yp, .bool ea] 32) = W := ⟨_, rfl⟩
  have K : Hid (Below w.heap.size w W) := by rw [← hW]; exact (Below.refl _ w).alloc (Nat.le_refl _) _
  have G : Hid (W.heap[w.heap.size]? = some (.cells #[.int .i64 d, .bool ag, .int .i64 xu, .int .i64 xs, .int .i64 xh, .int .i64 xa, .int .i64 xn, .string xt, .bool xp, .int .i64 g, .int .i64 yu, .int .i64 ys, .int .i64 yh, .int .i64 ya, .int .i64 yn, .string yt, .bool yp, .bool ea] 32)) := by rw [← hW]; exact heap1 w _
  obtain ⟨z0, e0⟩ : ∃ z, intT g = z := ⟨_, rfl⟩
  obtain ⟨z1, e1⟩ : ∃ z, intT (bitI ea) = z := ⟨_, rfl⟩
  have s0 := intT_size g hg
  have s1 := intT_size (bitI ea) (bit_i64 ea)
  rw [e0] at s0
  rw [e1] at s1
  have HT : Hid (bindT g ea = z0 ++ ⟨#[45]⟩ ++ z1) := by show intT g ++ ⟨#[45]⟩ ++ intT (bitI ea) = _; rw [e0, e1]
  have c0 : Hid (∀ w' : World, Calls Tryz.prog 83 #[.int .i64 g] w' fun e w'' => e = .returned (.string z0) ∧ Below w'.heap.size w' w'') := fun w' => by have := l1Int_any g hg w'; rwa [e0] at this
  have cB : Hid (∀ w' : World, Calls Tryz.prog 48 #[.bool ea] w' fun e w'' => e = .returned (.int .i64 (bitI ea)) ∧ Below w'.heap.size w' w'') := fun w' => by exact (l9Bit_any ea w').mono fun _ _ ⟨he, hw⟩ => ⟨he, hw ▸ Below.refl _ _⟩
  have c1 : Hid (∀ w' : World, Calls Tryz.prog 83 #[.int .i64 (bitI ea)] w' fun e w'' => e = .returned (.string z1) ∧ Below w'.heap.size w' w'') := fun w' => by have := l1Int_any (bitI ea) (bit_i64 ea) w'; rwa [e1] at this
  generalize bitI ea = bi at cB c1 e1
  have hno : ¬ 9223372036854775807 < z0.size + (⟨#[45]⟩ : ByteArray).size := by rw [show (⟨#[45]⟩ : ByteArray).size = 1 from rfl]; omega
  have hno2 : ¬ 9223372036854775807 < (z0 ++ (⟨#[45]⟩ : ByteArray)).size + z1.size := by rw [ByteArray.size_append, show (⟨#[45]⟩ : ByteArray).size = 1 from rfl]; omega
  clear e0 e1 hg
  go_enter Tryz.func49, Tryz.ntmps49
  go_wp2
  clear hW
  refine wp_region_own (W := W) [] (fun _ => True) stays_true trivial [0, 0, 1, 0, 0, 0, 1, 1, 0, 0] (by kernel_rfl) (by kernel_rfl) (by kernel_rfl) ?_
  have fk : ∀ q : In (plainEnv W []), _ := fun q => (blk18 (q.block G.out (by simp))).1
  refine wpO_quiet 2 rfl (by kernel_rfl) ?_
  simp only [List.take, List.drop]
  repeat (go_big_quiet_step (fail))
  refine wpQuiet_nil ?_
  refine wpO_call (f := 83) (args := #[.int .i64 g]) (.string z0) rfl (fun w' => by simp [go_sem]) (fun w' _ _ => c0.out w') ?_
  simp only [Act.put, List.setIfInBounds_toArray, List.set_cons_succ, List.set_cons_zero]
  refine wpO_quiet 3 rfl (by kernel_rfl) ?_
  simp only [List.take, List.drop]
  repeat (go_big_quiet_step (fail))
  refine wpQuiet_nil ?_
  refine wpO_call (f := 48) (args := #[.bool ea]) (.int .i64 bi) rfl (fun w' => by simp [go_sem]) (fun w' _ _ => cB.out w') ?_
  simp only [Act.put, List.setIfInBounds_toArray, List.set_cons_succ, List.set_cons_zero]
  refine wpO_call (f := 83) (args := #[.int .i64 bi]) (.string z1) rfl (fun w' => by simp [go_sem]) (fun w' _ _ => c1.out w') ?_
  simp only [Act.put, List.setIfInBounds_toArray, List.set_cons_succ, List.set_cons_zero]
  refine wpO_quiet 2 rfl (by kernel_rfl) ?_
  simp only [List.take, List.drop]
  repeat (go_big_quiet_step (fail))
  refine wpQuiet_nil ?_
  refine wpO_nil ?_
  rintro w1 b1 _
  have B1 := Lib.hid (K.out.trans ((kept_below b1).mono K.out.size))
  clear fk b1
  go_wp2
  go_ret
  exact ⟨by rw [HT.out]; rfl, B1.out⟩

theorem time_i64 {g : Int} (h : inB g 0 100000 = true) : -9223372036854775808 ≤ g ∧ g ≤ 9223372036854775807 := by have := inB_true h; omega
set_option maxHeartbeats 4000000 in
theorem Binds_spec (q : HelV) (s : Int) (w : World) : Calls Tryz.prog 17 #[q.val, .int .i64 s] w fun e w' => e = .returned (.bool (bindsB q s)) ∧ Below w.heap.size w w' := by
  have hI : (helOkB q && !bareB q) = true → -9223372036854775808 ≤ q.g ∧ q.g ≤ 9223372036854775807 := fun h => by
    rw [Bool.and_eq_true, Bool.not_eq_true', helOkB, Bool.and_eq_true, Bool.and_eq_true] at h
    have h1 := h.1.2.2
    rw [h.2, Bool.false_or, Bool.and_eq_true, Bool.and_eq_true] at h1
    exact time_i64 h1.2.2
  obtain ⟨d, ag, ⟨⟨xu, xs, xh, xa⟩, xn, xt, xp⟩, g, ⟨⟨yu, ys, yh, ya⟩, yn, yt, yp⟩, ea⟩ := q
  have HV : Hid (HelV.val ⟨d, ag, ⟨⟨xu, xs, xh, xa⟩, xn, xt, xp⟩, g, ⟨⟨yu, ys, yh, ya⟩, yn, yt, yp⟩, ea⟩ = .agg #[.int .i64 d, .bool ag, .int .i64 xu, .int .i64 xs, .int .i64 xh, .int .i64 xa, .int .i64 xn, .string xt, .bool xp, .int .i64 g, .int .i64 yu, .int .i64 ys, .int .i64 yh, .int .i64 ya, .int .i64 yn, .string yt, .bool yp, .bool ea]) := rfl
  rw [HV.out]
  dsimp only at hI
  obtain ⟨W, hW⟩ : ∃ W, w.alloc (.cells #[.int .i64 d, .bool ag, .int .i64 xu, .int .i64 xs, .int .i64 xh, .int .i64 xa, .int .i64 xn, .string xt, .bool xp, .int .i64 g, .int .i64 yu, .int .i64 ys, .int .i64 yh, .int .i64 ya, .int .i64 yn, .string yt, .bool yp, .bool ea] 32) = W := ⟨_, rfl⟩
  have K : Hid (Below w.heap.size w W) := by rw [← hW]; exact (Below.refl _ w).alloc (Nat.le_refl _) _
  have G : Hid (W.heap[w.heap.size]? = some (.cells #[.int .i64 d, .bool ag, .int .i64 xu, .int .i64 xs, .int .i64 xh, .int .i64 xa, .int .i64 xn, .string xt, .bool xp, .int .i64 g, .int .i64 yu, .int .i64 ys, .int .i64 yh, .int .i64 ya, .int .i64 yn, .string yt, .bool yp, .bool ea] 32)) := by rw [← hW]; exact heap1 w _
  obtain ⟨⟨ku, ks, kh, ka⟩, hk⟩ : ∃ x, rightK ⟨2, s, d, 0⟩ = x := ⟨_, rfl⟩
  obtain ⟨t, ht⟩ : ∃ x, openT ⟨⟨yu, ys, yh, ya⟩, yn, yt, yp⟩ ⟨ku, ks, kh, ka⟩ (bitI ag) = x := ⟨_, rfl⟩
  obtain ⟨z, hz⟩ : ∃ x, openB ⟨⟨yu, ys, yh, ya⟩, yn, yt, yp⟩ ⟨ku, ks, kh, ka⟩ (bitI ag) = x := ⟨_, rfl⟩
  obtain ⟨u, hu⟩ : ∃ x, bindT g ea = x := ⟨_, rfl⟩
  have HR : Hid (bindsB ⟨d, ag, ⟨⟨xu, xs, xh, xa⟩, xn, xt, xp⟩, g, ⟨⟨yu, ys, yh, ya⟩, yn, yt, yp⟩, ea⟩ s = ((helOkB ⟨d, ag, ⟨⟨xu, xs, xh, xa⟩, xn, xt, xp⟩, g, ⟨⟨yu, ys, yh, ya⟩, yn, yt, yp⟩, ea⟩ && !bareB ⟨d, ag, ⟨⟨xu, xs, xh, xa⟩, xn, xt, xp⟩, g, ⟨⟨yu, ys, yh, ya⟩, yn, yt, yp⟩, ea⟩) && (z && t.toList == u.toList))) := by show _ = _; rw [bindsB]; dsimp only; rw [hk, ht, hz, hu]; rfl
  have cH : Hid (∀ w' : World, Calls Tryz.prog 39 #[.agg #[.int .i64 d, .bool ag, .int .i64 xu, .int .i64 xs, .int .i64 xh, .int .i64 xa, .int .i64 xn, .string xt, .bool xp, .int .i64 g, .int .i64 yu, .int .i64 ys, .int .i64 yh, .int .i64 ya, .int .i64 yn, .string yt, .bool yp, .bool ea]] w' fun e w'' => e = .returned (.bool (helOkB ⟨d, ag, ⟨⟨xu, xs, xh, xa⟩, xn, xt, xp⟩, g, ⟨⟨yu, ys, yh, ya⟩, yn, yt, yp⟩, ea⟩)) ∧ Below w'.heap.size w' w'') := fun w' => by exact HelloOk_spec ⟨d, ag, ⟨⟨xu, xs, xh, xa⟩, xn, xt, xp⟩, g, ⟨⟨yu, ys, yh, ya⟩, yn, yt, yp⟩, ea⟩ w'
  have cZ : Hid (∀ w' : World, Calls Tryz.prog 45 #[.agg #[.int .i64 d, .bool ag, .int .i64 xu, .int .i64 xs, .int .i64 xh, .int .i64 xa, .int .i64 xn, .string xt, .bool xp, .int .i64 g, .int .i64 yu, .int .i64 ys, .int .i64 yh, .int .i64 ya, .int .i64 yn, .string yt, .bool yp, .bool ea]] w' fun e w'' => e = .returned (.bool (bareB ⟨d, ag, ⟨⟨xu, xs, xh, xa⟩, xn, xt, xp⟩, g, ⟨⟨yu, ys, yh, ya⟩, yn, yt, yp⟩, ea⟩)) ∧ Below w'.heap.size w' w'') := fun w' => by exact l9Bare_any ⟨d, ag, ⟨⟨xu, xs, xh, xa⟩, xn, xt, xp⟩, g, ⟨⟨yu, ys, yh, ya⟩, yn, yt, yp⟩, ea⟩ w'
  have cK : Hid (∀ w' : World, Calls Tryz.prog 47 #[.int .i64 s, .int .i64 d] w' fun e w'' => e = .returned (.agg #[.int .i64 ku, .int .i64 ks, .int .i64 kh, .int .i64 ka]) ∧ Below w'.heap.size w' w'') := fun w' => by have := BindKey_spec s d w'; rw [hk] at this; exact this
  have cB : Hid (∀ w' : World, Calls Tryz.prog 48 #[.bool ag] w' fun e w'' => e = .returned (.int .i64 (bitI ag)) ∧ Below w'.heap.size w' w'') := fun w' => by exact (l9Bit_any ag w').mono fun _ _ ⟨he, hw⟩ => ⟨he, hw ▸ Below.refl _ _⟩
  have cO : Hid (∀ w' : World, Calls Tryz.prog 46 #[.agg #[.int .i64 yu, .int .i64 ys, .int .i64 yh, .int .i64 ya, .int .i64 yn, .string yt, .bool yp], .agg #[.int .i64 ku, .int .i64 ks, .int .i64 kh, .int .i64 ka], .int .i64 (bitI ag)] w' fun e w'' => e = .returned (.tuple #[.string t, .bool z]) ∧ Below w'.heap.size w' w'') := fun w' => by have := Opened_spec ⟨⟨yu, ys, yh, ya⟩, yn, yt, yp⟩ ⟨ku, ks, kh, ka⟩ (bitI ag) w'; rw [ht, hz] at this; exact this
  have cT : Hid (∀ w' : World, (helOkB ⟨d, ag, ⟨⟨xu, xs, xh, xa⟩, xn, xt, xp⟩, g, ⟨⟨yu, ys, yh, ya⟩, yn, yt, yp⟩, ea⟩ && !bareB ⟨d, ag, ⟨⟨xu, xs, xh, xa⟩, xn, xt, xp⟩, g, ⟨⟨yu, ys, yh, ya⟩, yn, yt, yp⟩, ea⟩) = true → Calls Tryz.prog 49 #[.agg #[.int .i64 d, .bool ag, .int .i64 xu, .int .i64 xs, .int .i64 xh, .int .i64 xa, .int .i64 xn, .string xt, .bool xp, .int .i64 g, .int .i64 yu, .int .i64 ys, .int .i64 yh, .int .i64 ya, .int .i64 yn, .string yt, .bool yp, .bool ea]] w' fun e w'' => e = .returned (.string u) ∧ Below w'.heap.size w' w'') := fun w' h => by have := l9Text_any ⟨d, ag, ⟨⟨xu, xs, xh, xa⟩, xn, xt, xp⟩, g, ⟨⟨yu, ys, yh, ya⟩, yn, yt, yp⟩, ea⟩ (hI h) w'; dsimp only at this; rw [hu] at this; exact this
  generalize helOkB ⟨d, ag, ⟨⟨xu, xs, xh, xa⟩, xn, xt, xp⟩, g, ⟨⟨yu, ys, yh, ya⟩, yn, yt, yp⟩, ea⟩ = zh at HR cH cT
  generalize bareB ⟨d, ag, ⟨⟨xu, xs, xh, xa⟩, xn, xt, xp⟩, g, ⟨⟨yu, ys, yh, ya⟩, yn, yt, yp⟩, ea⟩ = zb at HR cZ cT
  rw [HR.out]
  clear HR HV hI ht hz hu hk
  generalize bitI ag = bi at cB cO
  go_enter Tryz.func17, Tryz.ntmps17
  go_upto_region 1 with fail
  clear hW
  go_wp2_with (refine wpList_load_wanted rfl 32 _ rfl (w.heap.size) rfl 32 _ (0, 0) _ G.out Tryz.underlying32 rfl (by kernel_rfl) ?_)
  refine (cH.out _).mono ?_
  rintro e w1 ⟨rfl, hb⟩
  have G1 := Lib.hid (blk_on hb G.out)
  have K1 := Lib.hid (K.out.trans (hb.mono K.out.size))
  clear hb G K
  cases zh with
  | false =>
    go_wp2
    go_ret
    exact ⟨rfl, K1.out⟩
  | true =>
    go_wp2_with (refine wpList_load_wanted rfl 32 _ rfl (w.heap.size) rfl 32 _ (0, 0) _ G1.out Tryz.underlying32 rfl (by kernel_rfl) ?_)
    refine (cZ.out _).mono ?_
    rintro e w2 ⟨rfl, hb⟩
    have G2 := Lib.hid (blk_on hb G1.out)
    have K2 := Lib.hid (K1.out.trans (hb.mono K1.out.size))
    clear hb G1 K1
    cases zb with
    | true =>
      go_wp2
      go_ret
      exact ⟨rfl, K2.out⟩
    | false =>
      go_wp2
      refine wp_region_own (W := w2) [] (fun _ => True) stays_true trivial [0, 0, 0, 0, 0, 1, 0, 0, 1, 1, 0, 0, 0, 0, 0] (by kernel_rfl) (by kernel_rfl) (by kernel_rfl) ?_
      have fk : ∀ q : In (plainEnv w2 []), _ := fun q => (blk18 (q.block G2.out (by simp))).1
      refine wpO_quiet 5 rfl (by kernel_rfl) ?_
      simp only [List.take, List.drop]
      repeat (go_big_quiet_step (fail))
      refine wpQuiet_nil ?_
      refine wpO_call (f := 47) (args := #[.int .i64 s, .int .i64 d]) (.agg #[.int .i64 ku, .int .i64 ks, .int .i64 kh, .int .i64 ka]) rfl (fun w' => by simp [go_sem]) (fun w' _ _ => cK.out w') ?_
      simp only [Act.put, List.setIfInBounds_toArray, List.set_cons_succ, List.set_cons_zero]
      refine wpO_quiet 2 rfl (by kernel_rfl) ?_
      simp only [List.take, List.drop]
      repeat (go_big_quiet_step (fail))
      refine wpQuiet_nil ?_
      refine wpO_call (f := 48) (args := #[.bool ag]) (.int .i64 bi) rfl (fun w' => by simp [go_sem]) (fun w' _ _ => cB.out w') ?_
      simp only [Act.put, List.setIfInBounds_toArray, List.set_cons_succ, List.set_cons_zero]
      refine wpO_call (f := 46) (args := #[.agg #[.int .i64 yu, .int .i64 ys, .int .i64 yh, .int .i64 ya, .int .i64 yn, .string yt, .bool yp], .agg #[.int .i64 ku, .int .i64 ks, .int .i64 kh, .int .i64 ka], .int .i64 bi]) (.tuple #[.string t, .bool z]) rfl (fun w' => by simp [go_sem]) (fun w' _ _ => cO.out w') ?_
      simp only [Act.put, List.setIfInBounds_toArray, List.set_cons_succ, List.set_cons_zero]
      refine wpO_quiet 5 rfl (by kernel_rfl) ?_
      simp only [List.take, List.drop]
      repeat (go_big_quiet_step (fail))
      refine wpQuiet_nil ?_
      refine wpO_nil ?_
      rintro w3 b3' _
      have b3 := kept_below b3'
      have G3 := Lib.hid (blk_on b3 G2.out)
      have K3 := Lib.hid (K2.out.trans (b3.mono K2.out.size))
      clear fk b3 b3' G2 K2
      cases z with
      | false =>
        go_wp2
        go_ret
        exact ⟨rfl, K3.out⟩
      | true =>
        go_wp2_with (refine wpList_load_wanted rfl 32 _ rfl (w.heap.size) rfl 32 _ (0, 0) _ G3.out Tryz.underlying32 rfl (by kernel_rfl) ?_)
        refine (cT.out _ rfl).mono ?_
        rintro e w4 ⟨rfl, hb⟩
        have K4 := Lib.hid (K3.out.trans (hb.mono K3.out.size))
        clear hb G3 K3
        cases hs : t.toList == u.toList with
        | false =>
          go_wp2
          go_ret
          exact ⟨by rw [hs]; rfl, K4.out⟩
        | true =>
          go_wp2
          go_ret
          exact ⟨by rw [hs]; rfl, K4.out⟩

end Go.Proofs.YtoffdlokndngeaaGreatDoor.Tx

/-
  What bindNo, words, wordsIn and Binds of the program answer. No conditions.
-/
import Derived.Test.YtpegjdknlkpkbaaImpl9a
import Derived.Test.YtpegjdknlkpkbaaImpl9b
namespace Go.Proofs.Ytpegjdknlkpkbaa.Tx
open Go.RowKit

theorem bindNo_any (q : HelV) (w : World) : Calls Try.prog 33 #[q.val] w fun e w' => e = .returned (.int .i64 (bitI q.ag)) ∧ Below w.heap.size w w' := by
  obtain ⟨d, ag, ⟨⟨xu, xs, xh, xa⟩, xn, xt, xp⟩, g, ⟨⟨yu, ys, yh, ya⟩, yn, yt, yp⟩, ea⟩ := q
  have HV : Hid (HelV.val ⟨d, ag, ⟨⟨xu, xs, xh, xa⟩, xn, xt, xp⟩, g, ⟨⟨yu, ys, yh, ya⟩, yn, yt, yp⟩, ea⟩ = .agg #[.int .i64 d, .bool ag, .int .i64 xu, .int .i64 xs, .int .i64 xh, .int .i64 xa, .int .i64 xn, .string xt, .bool xp, .int .i64 g, .int .i64 yu, .int .i64 ys, .int .i64 yh, .int .i64 ya, .int .i64 yn, .string yt, .bool yp, .bool ea]) := rfl
  rw [HV.out]
  obtain ⟨W, hW⟩ : ∃ W, w.alloc (.cells #[.int .i64 d, .bool ag, .int .i64 xu, .int .i64 xs, .int .i64 xh, .int .i64 xa, .int .i64 xn, .string xt, .bool xp, .int .i64 g, .int .i64 yu, .int .i64 ys, .int .i64 yh, .int .i64 ya, .int .i64 yn, .string yt, .bool yp, .bool ea] 34) = W := ⟨_, rfl⟩
  have K : Hid (Below w.heap.size w W) := by rw [← hW]; exact (Below.refl _ w).alloc (Nat.le_refl _) _
  have c1 : W.cell? ⟨w.heap.size, 1, none⟩ = some (.bool ag) := blk_cell (show W.heap[w.heap.size]? = some (.cells #[.int .i64 d, .bool ag, .int .i64 xu, .int .i64 xs, .int .i64 xh, .int .i64 xa, .int .i64 xn, .string xt, .bool xp, .int .i64 g, .int .i64 yu, .int .i64 ys, .int .i64 yh, .int .i64 ya, .int .i64 yn, .string yt, .bool yp, .bool ea] 34) by rw [← hW]; exact heap1 w _) 1
  cases ag with
  | false =>
    go_enter Try.func33, Try.ntmps33
    go_wp2
    go_ret
    exact ⟨rfl, K.out⟩
  | true =>
    go_enter Try.func33, Try.ntmps33
    go_wp2
    go_ret
    exact ⟨rfl, K.out⟩

theorem words_any (q : HelV) (w : World) : Calls Try.prog 35 #[q.val] w fun e w' => e = .returned (.agg #[.int .i64 q.g, .bool q.ea]) ∧ Below w.heap.size w w' := by
  obtain ⟨d, ag, ⟨⟨xu, xs, xh, xa⟩, xn, xt, xp⟩, g, ⟨⟨yu, ys, yh, ya⟩, yn, yt, yp⟩, ea⟩ := q
  have HV : Hid (HelV.val ⟨d, ag, ⟨⟨xu, xs, xh, xa⟩, xn, xt, xp⟩, g, ⟨⟨yu, ys, yh, ya⟩, yn, yt, yp⟩, ea⟩ = .agg #[.int .i64 d, .bool ag, .int .i64 xu, .int .i64 xs, .int .i64 xh, .int .i64 xa, .int .i64 xn, .string xt, .bool xp, .int .i64 g, .int .i64 yu, .int .i64 ys, .int .i64 yh, .int .i64 ya, .int .i64 yn, .string yt, .bool yp, .bool ea]) := rfl
  rw [HV.out]
  obtain ⟨W, hW⟩ : ∃ W, (w.alloc (.cells #[.int .i64 d, .bool ag, .int .i64 xu, .int .i64 xs, .int .i64 xh, .int .i64 xa, .int .i64 xn, .string xt, .bool xp, .int .i64 g, .int .i64 yu, .int .i64 ys, .int .i64 yh, .int .i64 ya, .int .i64 yn, .string yt, .bool yp, .bool ea] 34)).alloc (.cells #[.int .i64 0, .bool false] 57) = W := ⟨_, rfl⟩
  have K : Hid (Below w.heap.size w W) := by rw [← hW]; exact ((Below.refl _ w).alloc (Nat.le_refl _) _).alloc (by simp) _
  have G : Hid (W.heap[w.heap.size]? = some (.cells #[.int .i64 d, .bool ag, .int .i64 xu, .int .i64 xs, .int .i64 xh, .int .i64 xa, .int .i64 xn, .string xt, .bool xp, .int .i64 g, .int .i64 yu, .int .i64 ys, .int .i64 yh, .int .i64 ya, .int .i64 yn, .string yt, .bool yp, .bool ea] 34)) := by rw [← hW]; exact heap2a w _ _
  have R : Hid (W.heap[w.heap.size + 1]? = some (.cells #[.int .i64 0, .bool false] 57)) := by rw [← hW]; exact heap2b w _ _
  have c3 : W.cell? ⟨w.heap.size, 9, none⟩ = some (.int .i64 g) := blk_cell G.out 9
  have c5 : W.cell? ⟨w.heap.size, 17, none⟩ = some (.bool ea) := blk_cell G.out 17
  go_enter Try.func35, Try.ntmps35
  go_wp2_with (refine wpList_store_row rfl 57 _ _ rfl (w.heap.size + 1) #[.int .i64 g, .bool ea] rfl rfl 57 _ R.out (by kernel_rfl) rfl (by simp [Value.oneCell']) ?_)
  exact row_ret (cs := #[.int .i64 g, .bool ea]) rfl rfl (setRow_heap _ _ _ _ _ _ R.out) Try.underlying57 rfl (by kernel_rfl) rfl ⟨rfl, below_setRow K.out (by omega) _⟩

/-- What wordsIn answers: it reads just what was written. -/
def WordsOut (s : ByteArray) (g' : Int) (e' ok : Bool) : Prop := ∀ (g : Int) (ea : Bool), 0 ≤ g ∧ g ≤ 100000 → sameT s (bindT g ea) = (ok && (g' == g && e' == ea))
theorem words_none {s : ByteArray} (h : NoNum s) : WordsOut s 0 false false := fun g ea hg => by rw [no_bind h hg, Bool.false_and]
theorem words_left {s r : ByteArray} {n : Nat} (h : NumA s n r) (h0 : ¬ r.data.toList = [45, 48]) (h1 : ¬ r.data.toList = [45, 49]) : WordsOut s 0 false false := fun g ea hg => by
  rw [read_bind h hg.1, toList_data, Bool.false_and, Bool.and_eq_false_iff]
  right
  rw [beq_eq_false_iff_ne]
  cases ea
  · exact h0
  · exact h1
theorem words_zero {s r : ByteArray} {n : Nat} (h : NumA s n r) (h0 : r.data.toList = [45, 48]) : WordsOut s n false true := fun g ea hg => by
  rw [read_bind h hg.1, toList_data, h0, Bool.true_and]
  cases ea <;> simp
theorem words_one {s r : ByteArray} {n : Nat} (h : NumA s n r) (h0 : r.data.toList = [45, 49]) : WordsOut s n true true := fun g ea hg => by
  rw [read_bind h hg.1, toList_data, h0, Bool.true_and]
  cases ea <;> simp

set_option maxHeartbeats 2000000 in
theorem wordsIn_any (s : ByteArray) (w : World) : Calls Try.prog 34 #[.string s] w fun e w' => ∃ (g : Int) (b ok : Bool), (e = .returned (.tuple #[.agg #[.int .i64 g, .bool b], .bool ok]) ∧ Below w.heap.size w w') ∧ WordsOut s g b ok := by
  obtain ⟨W, hW⟩ : ∃ W, w.alloc (.cells #[.int .i64 0, .bool false] 57) = W := ⟨_, rfl⟩
  have K : Hid (Below w.heap.size w W) := by rw [← hW]; exact (Below.refl _ w).alloc (Nat.le_refl _) _
  have R : Hid (W.heap[w.heap.size]? = some (.cells #[.int .i64 0, .bool false] 57)) := by rw [← hW]; exact heap1 w _
  go_enter Try.func34, Try.ntmps34
  go_wp2_with fail
  clear hW
  refine (numberAhead_any s _).mono ?_
  rintro e w1 ⟨⟨n, r, rfl, hn⟩ | ⟨rfl, hn⟩, hb⟩
  · have R1 := Lib.hid (blk_on hb R.out)
    have K1 := Lib.hid (K.out.trans (hb.mono K.out.size))
    have HN := Lib.hid hn
    clear hb R K hn
    by_cases h0 : r.data.toList = [45, 48]
    · have hr0 : r.toList = [45, 48] := by rw [toList_data, h0]
      have HE := Lib.hid (words_zero HN.out h0)
      clear h0
      go_wp2_with (refine wpList_store_row rfl 57 _ _ rfl (w.heap.size) #[.int .i64 (n : Int), .bool false] rfl rfl 57 _ R1.out (by kernel_rfl) rfl (by simp [Value.oneCell']) ?_)
      exact row_ret2 (r := w.heap.size) (cs := #[.int .i64 (n : Int), .bool false]) rfl rfl rfl (setRow_heap _ _ _ _ _ _ R1.out) Try.underlying57 rfl (by kernel_rfl) rfl ⟨_, _, _, ⟨rfl, below_setRow K1.out (Nat.le_refl _) _⟩, HE.out⟩
    · have hr0 : ¬ r.toList = [45, 48] := by rw [toList_data]; exact h0
      have hs0 : (r.toList == [45, 48]) = false := by rw [beq_eq_false_iff_ne]; exact hr0
      by_cases h1 : r.data.toList = [45, 49]
      · have hr1 : r.toList = [45, 49] := by rw [toList_data, h1]
        have HE := Lib.hid (words_one HN.out h1)
        clear h0 h1
        go_wp2_with (refine wpList_store_row rfl 57 _ _ rfl (w.heap.size) #[.int .i64 (n : Int), .bool true] rfl rfl 57 _ R1.out (by kernel_rfl) rfl (by simp [Value.oneCell']) ?_)
        exact row_ret2 (r := w.heap.size) (cs := #[.int .i64 (n : Int), .bool true]) rfl rfl rfl (setRow_heap _ _ _ _ _ _ R1.out) Try.underlying57 rfl (by kernel_rfl) rfl ⟨_, _, _, ⟨rfl, below_setRow K1.out (Nat.le_refl _) _⟩, HE.out⟩
      · have hr1 : ¬ r.toList = [45, 49] := by rw [toList_data]; exact h1
        have hs1 : (r.toList == [45, 49]) = false := by rw [beq_eq_false_iff_ne]; exact hr1
        have HE := Lib.hid (words_left HN.out h0 h1)
        clear h0 h1
        go_wp2_with (refine wpList_store_row rfl 57 _ _ rfl (w.heap.size) #[.int .i64 0, .bool false] rfl rfl 57 _ R1.out (by kernel_rfl) rfl (by simp [Value.oneCell']) ?_)
        exact row_ret2 (r := w.heap.size) (cs := #[.int .i64 0, .bool false]) rfl rfl rfl (setRow_heap _ _ _ _ _ _ R1.out) Try.underlying57 rfl (by kernel_rfl) rfl ⟨_, _, _, ⟨rfl, below_setRow K1.out (Nat.le_refl _) _⟩, HE.out⟩
  · have R1 := Lib.hid (blk_on hb R.out)
    have K1 := Lib.hid (K.out.trans (hb.mono K.out.size))
    have HE := Lib.hid (words_none hn)
    clear hb R K hn
    go_wp2_with (refine wpList_store_row rfl 57 _ _ rfl (w.heap.size) #[.int .i64 0, .bool false] rfl rfl 57 _ R1.out (by kernel_rfl) rfl (by simp [Value.oneCell']) ?_)
    exact row_ret2 (r := w.heap.size) (cs := #[.int .i64 0, .bool false]) rfl rfl rfl (setRow_heap _ _ _ _ _ _ R1.out) Try.underlying57 rfl (by kernel_rfl) rfl ⟨_, _, _, ⟨rfl, below_setRow K1.out (Nat.le_refl _) _⟩, HE.out⟩

theorem eq_words (a c : Int) (b d : Bool) (w : World) : (Op.equalIn 10000 57 (.agg #[.int .i64 a, .bool b]) (.agg #[.int .i64 c, .bool d])).run Try.prog w = .ok (a == c && b == d) w := by
  cases h0 : a == c
  · simp [go_sem, h0]
  cases h1 : b == d
  · simp [go_sem, h0, h1]
  · simp [go_sem, h0, h1]
theorem isZ_bad {b : BoxV} (h : b.isZ = true) : boxOkB b = false := by
  have hu : b.k.u = 0 := by
    unfold BoxV.isZ at h
    rw [Bool.and_eq_true] at h
    simpa using h.1
  unfold boxOkB keyOkB
  rw [hu]
  rfl
theorem open_not_bare {q : HelV} {k : KeyV} {no : Int} (h : openB q.y k no = true) : bareB q = false := by
  rw [Bool.eq_false_iff]
  intro hb
  rw [bareB, Bool.and_eq_true, Bool.and_eq_true, Bool.and_eq_true] at hb
  rw [openB, isZ_bad hb.2.2.1] at h
  cases h
theorem binds_no {q : HelV} {s : Int} (h : openB q.y (rightK ⟨2, s, q.d, 0⟩) (bitI q.ag) = false) : bindsB q s = false := by
  rw [bindsB, h]; simp
theorem binds_wrong {q : HelV} {s : Int} (h : helOkB q = false) : bindsB q s = false := by
  rw [bindsB, h]; rfl
theorem binds_yes {q : HelV} {s : Int} (h0 : helOkB q = true) (h : openB q.y (rightK ⟨2, s, q.d, 0⟩) (bitI q.ag) = true) {g : Int} {e ok : Bool} (hw : WordsOut (openT q.y (rightK ⟨2, s, q.d, 0⟩) (bitI q.ag)) g e ok) : bindsB q s = (ok && (g == q.g && e == q.ea)) := by
  have hb := open_not_bare h
  have h1 := h0
  rw [helOkB, hb, Bool.and_eq_true, Bool.and_eq_true, Bool.false_or, Bool.and_eq_true, Bool.and_eq_true] at h1
  rw [bindsB, h, h0, hb, hw q.g q.ea (by have := inB_true h1.2.2.2.2; omega)]
  rfl

set_option maxHeartbeats 8000000 in
theorem Binds_impl (q : HelV) (s : Int) (w : World) : Calls Try.prog 14 #[q.val, .int .i64 s] w fun e w' => e = .returned (.bool (bindsB q s)) ∧ Below w.heap.size w w' := by
  have cH0 := fun w' => HelloOk_impl q w'
  have cO0 := fun w' => Opened_impl q.y (rightK ⟨2, s, q.d, 0⟩) (bitI q.ag) w'
  have cW0 := fun w' => wordsIn_any (openT q.y (rightK ⟨2, s, q.d, 0⟩) (bitI q.ag)) w'
  have cN0 := fun w' => bindNo_any q w'
  have cV0 := fun w' => words_any q w'
  have cK0 := fun w' => BindKey_impl s q.d w'
  have h1 := Lib.hid (binds_wrong (q := q) (s := s))
  have h2 := Lib.hid (binds_no (q := q) (s := s))
  have h3 := Lib.hid (fun h0 h (g : Int) (e ok : Bool) hw => binds_yes (q := q) (s := s) h0 h (g := g) (e := e) (ok := ok) hw)
  obtain ⟨d, ag, ⟨⟨xu, xs, xh, xa⟩, xn, xt, xp⟩, g, ⟨⟨yu, ys, yh, ya⟩, yn, yt, yp⟩, ea⟩ := q
  have HV : Hid (HelV.val ⟨d, ag, ⟨⟨xu, xs, xh, xa⟩, xn, xt, xp⟩, g, ⟨⟨yu, ys, yh, ya⟩, yn, yt, yp⟩, ea⟩ = .agg #[.int .i64 d, .bool ag, .int .i64 xu, .int .i64 xs, .int .i64 xh, .int .i64 xa, .int .i64 xn, .string xt, .bool xp, .int .i64 g, .int .i64 yu, .int .i64 ys, .int .i64 yh, .int .i64 ya, .int .i64 yn, .string yt, .bool yp, .bool ea]) := rfl
  have HY : Hid (BoxV.val ⟨⟨yu, ys, yh, ya⟩, yn, yt, yp⟩ = .agg #[.int .i64 yu, .int .i64 ys, .int .i64 yh, .int .i64 ya, .int .i64 yn, .string yt, .bool yp]) := rfl
  rw [HV.out] at cH0 cN0 cV0 ⊢
  dsimp only at cH0 cO0 cW0 cN0 cV0 cK0 h1 h2 h3
  rw [HY.out] at cO0
  clear HV HY
  generalize bindsB ⟨d, ag, ⟨⟨xu, xs, xh, xa⟩, xn, xt, xp⟩, g, ⟨⟨yu, ys, yh, ya⟩, yn, yt, yp⟩, ea⟩ s = out at h1 h2 h3 ⊢
  generalize helOkB ⟨d, ag, ⟨⟨xu, xs, xh, xa⟩, xn, xt, xp⟩, g, ⟨⟨yu, ys, yh, ya⟩, yn, yt, yp⟩, ea⟩ = zh at cH0 h1 h3
  generalize openT ⟨⟨yu, ys, yh, ya⟩, yn, yt, yp⟩ (rightK ⟨2, s, d, 0⟩) (bitI ag) = t at cO0 cW0 h3
  generalize openB ⟨⟨yu, ys, yh, ya⟩, yn, yt, yp⟩ (rightK ⟨2, s, d, 0⟩) (bitI ag) = z at cO0 h2 h3
  generalize rightK ⟨2, s, d, 0⟩ = kk at cO0 cK0
  generalize bitI ag = bi at cO0 cN0
  obtain ⟨ku, ks, kh, ka⟩ := kk
  have HKV : Hid (KeyV.val ⟨ku, ks, kh, ka⟩ = .agg #[.int .i64 ku, .int .i64 ks, .int .i64 kh, .int .i64 ka]) := rfl
  rw [HKV.out] at cO0 cK0
  clear HKV
  have cH := Lib.hid cH0
  have cO := Lib.hid cO0
  have cW := Lib.hid cW0
  have cN := Lib.hid cN0
  have cV := Lib.hid cV0
  have cK := Lib.hid cK0
  clear cH0 cO0 cW0 cN0 cV0 cK0
  obtain ⟨W, hW⟩ : ∃ W, w.alloc (.cells #[.int .i64 d, .bool ag, .int .i64 xu, .int .i64 xs, .int .i64 xh, .int .i64 xa, .int .i64 xn, .string xt, .bool xp, .int .i64 g, .int .i64 yu, .int .i64 ys, .int .i64 yh, .int .i64 ya, .int .i64 yn, .string yt, .bool yp, .bool ea] 34) = W := ⟨_, rfl⟩
  have K : Hid (Below w.heap.size w W) := by rw [← hW]; exact (Below.refl _ w).alloc (Nat.le_refl _) _
  have G : Hid (W.heap[w.heap.size]? = some (.cells #[.int .i64 d, .bool ag, .int .i64 xu, .int .i64 xs, .int .i64 xh, .int .i64 xa, .int .i64 xn, .string xt, .bool xp, .int .i64 g, .int .i64 yu, .int .i64 ys, .int .i64 yh, .int .i64 ya, .int .i64 yn, .string yt, .bool yp, .bool ea] 34)) := by rw [← hW]; exact heap1 w _
  go_enter Try.func14, Try.ntmps14
  go_wp2_with (refine wpList_load_row rfl 34 _ rfl (w.heap.size) rfl 34 _ (0, 0) _ G.out Try.underlying34 rfl (by kernel_rfl) ?_)
  clear hW
  refine (cH.out _).mono ?_
  rintro e w1 ⟨rfl, hb⟩
  have G1 := Lib.hid (blk_on hb G.out)
  have K1 := Lib.hid (K.out.trans (hb.mono K.out.size))
  clear hb G K cH
  cases zh with
  | false =>
    go_wp2
    go_ret
    exact ⟨by rw [h1.out (by first | rfl | trivial)]; rfl, K1.out⟩
  | true =>
    go_wp2
    refine wp_region_own (W := w1) [] (fun _ => True) stays_true trivial [0, 0, 0, 0, 0, 1, 0, 1, 1, 0, 0, 0, 0, 0] (by kernel_rfl) (by kernel_rfl) (by kernel_rfl) ?_
    have fk : ∀ q : In (plainEnv w1 []), _ := fun q => (blk18 (q.block G1.out (by simp))).1
    have fR : Hid (∀ q : In (plainEnv w1 []), q.w.heap[w.heap.size]? = some (.cells #[.int .i64 d, .bool ag, .int .i64 xu, .int .i64 xs, .int .i64 xh, .int .i64 xa, .int .i64 xn, .string xt, .bool xp, .int .i64 g, .int .i64 yu, .int .i64 ys, .int .i64 yh, .int .i64 ya, .int .i64 yn, .string yt, .bool yp, .bool ea] 34)) := fun q => q.block G1.out (by simp)
    refine wpO_quiet 5 rfl (by kernel_rfl) ?_
    simp only [List.take, List.drop]
    repeat (go_big_quiet_step (fail))
    refine wpQuiet_nil ?_
    refine wpO_call (f := 32) (args := #[.int .i64 s, .int .i64 d]) (.agg #[.int .i64 ku, .int .i64 ks, .int .i64 kh, .int .i64 ka]) rfl (fun w' => by simp [go_sem]) (fun w' _ _ => cK.out w') ?_
    simp only [Act.put, List.setIfInBounds_toArray, List.set_cons_succ, List.set_cons_zero]
    refine wpO_load_row rfl 34 _ rfl (w.heap.size) rfl 34 _ (0, 0) _ fR.out Try.underlying34 rfl (by kernel_rfl) ?_
    simp only [Act.put, List.setIfInBounds_toArray, List.set_cons_succ, List.set_cons_zero]
    refine wpO_call (f := 33) (args := #[.agg #[.int .i64 d, .bool ag, .int .i64 xu, .int .i64 xs, .int .i64 xh, .int .i64 xa, .int .i64 xn, .string xt, .bool xp, .int .i64 g, .int .i64 yu, .int .i64 ys, .int .i64 yh, .int .i64 ya, .int .i64 yn, .string yt, .bool yp, .bool ea]]) (.int .i64 bi) rfl (fun w' => by simp [go_sem]) (fun w' _ _ => cN.out w') ?_
    simp only [Act.put, List.setIfInBounds_toArray, List.set_cons_succ, List.set_cons_zero]
    refine wpO_call (f := 31) (args := #[.agg #[.int .i64 yu, .int .i64 ys, .int .i64 yh, .int .i64 ya, .int .i64 yn, .string yt, .bool yp], .agg #[.int .i64 ku, .int .i64 ks, .int .i64 kh, .int .i64 ka], .int .i64 bi]) (.tuple #[.string t, .bool z]) rfl (fun w' => by simp [go_sem]) (fun w' _ _ => cO.out w') ?_
    simp only [Act.put, List.setIfInBounds_toArray, List.set_cons_succ, List.set_cons_zero]
    refine wpO_quiet 5 rfl (by kernel_rfl) ?_
    simp only [List.take, List.drop]
    repeat (go_big_quiet_step (fail))
    refine wpQuiet_nil ?_
    refine wpO_nil ?_
    rintro w3 b3' _
    have b3 := kept_below b3'
    have G3 := Lib.hid (blk_on b3 G1.out)
    have K3 := Lib.hid (K1.out.trans (b3.mono K1.out.size))
    clear fk fR b3 b3' G1 K1 cK cN cO
    cases z with
    | false =>
      go_wp2
      go_ret
      exact ⟨by rw [h2.out (by first | rfl | trivial)]; rfl, K3.out⟩
    | true =>
      go_wp2_with fail
      refine (cW.out _).mono ?_
      rintro e w4 ⟨g', e', ok, ⟨rfl, hb⟩, hw⟩
      have HE := Lib.hid (h3.out (by first | rfl | trivial) (by first | rfl | trivial) g' e' ok hw)
      have G4 := Lib.hid (blk_on hb G3.out)
      have K4 := Lib.hid (K3.out.trans (hb.mono K3.out.size))
      clear hb hw G3 K3 cW h1 h2 h3
      obtain ⟨V, hV⟩ : ∃ V, w4.alloc (.cells #[.int .i64 0, .bool false] 57) = V := ⟨_, rfl⟩
      have K5 : Hid (Below w.heap.size w V) := by rw [← hV]; exact K4.out.alloc K4.out.size _
      have G5 : Hid (V.heap[w.heap.size]? = some (.cells #[.int .i64 d, .bool ag, .int .i64 xu, .int .i64 xs, .int .i64 xh, .int .i64 xa, .int .i64 xn, .string xt, .bool xp, .int .i64 g, .int .i64 yu, .int .i64 ys, .int .i64 yh, .int .i64 ya, .int .i64 yn, .string yt, .bool yp, .bool ea] 34)) := by rw [← hV]; exact alloc_blk G4.out
      have R5 : Hid (V.heap[w4.heap.size]? = some (.cells #[.int .i64 0, .bool false] 57)) := by rw [← hV]; exact heap1 w4 _
      have hlt : w.heap.size < w4.heap.size := blk_in G4.out
      clear G4 K4
      go_wp2_with (refine wpList_store_row rfl 57 _ _ rfl (w4.heap.size) #[.int .i64 g', .bool e'] rfl rfl 57 _ R5.out (by kernel_rfl) rfl (by simp [Value.oneCell']) ?_)
      clear hV
      have R6 : Hid ((V.setRow w4.heap.size #[.int .i64 g', .bool e']).heap[w4.heap.size]? = some (.cells #[.int .i64 g', .bool e'] 57)) := setRow_heap _ _ _ _ _ _ R5.out
      have G6 : Hid ((V.setRow w4.heap.size #[.int .i64 g', .bool e']).heap[w.heap.size]? = some (.cells #[.int .i64 d, .bool ag, .int .i64 xu, .int .i64 xs, .int .i64 xh, .int .i64 xa, .int .i64 xn, .string xt, .bool xp, .int .i64 g, .int .i64 yu, .int .i64 ys, .int .i64 yh, .int .i64 ya, .int .i64 yn, .string yt, .bool yp, .bool ea] 34)) := (setRow_other _ _ _ _ (by omega)).trans G5.out
      have K6 : Hid (Below w.heap.size w (V.setRow w4.heap.size #[.int .i64 g', .bool e'])) := below_setRow K5.out (by omega) _
      generalize V.setRow w4.heap.size #[.int .i64 g', .bool e'] = V6 at R6 G6 K6 ⊢
      clear R5 G5 K5
      refine wp_region_own (W := V6) [] (fun _ => True) stays_true trivial [0, 0, 0, 0, 1, 0, 0, 0] (by kernel_rfl) (by kernel_rfl) (by kernel_rfl) ?_
      have fw : ∀ q : In (plainEnv V6 []), (q.w.cell? ⟨w4.heap.size, 0, none⟩ = some (.int .i64 g') ∧ q.w.cell? ⟨w4.heap.size, 1, none⟩ = some (.bool e')) := fun q => ⟨blk_cell (q.block R6.out (by simp)) 0, blk_cell (q.block R6.out (by simp)) 1⟩
      have fR : Hid (∀ q : In (plainEnv V6 []), q.w.heap[w.heap.size]? = some (.cells #[.int .i64 d, .bool ag, .int .i64 xu, .int .i64 xs, .int .i64 xh, .int .i64 xa, .int .i64 xn, .string xt, .bool xp, .int .i64 g, .int .i64 yu, .int .i64 ys, .int .i64 yh, .int .i64 ya, .int .i64 yn, .string yt, .bool yp, .bool ea] 34)) := fun q => q.block G6.out (by simp)
      have hq := eq_words g' g e' ea
      generalize (g' == g && e' == ea) = u at hq HE
      cases ok with
      | false =>
        refine wpO_quiet 4 rfl (by kernel_rfl) ?_
        simp only [List.take, List.drop]
        repeat (go_big_quiet_step (fail))
        refine wpQuiet_nil ?_
        refine wpO_skip rfl ?_
        simp only [Act.put, List.setIfInBounds_toArray, List.set_cons_succ, List.set_cons_zero]
        refine wpO_quiet 3 rfl (by kernel_rfl) ?_
        simp only [List.take, List.drop]
        repeat (go_big_quiet_step (fail))
        refine wpQuiet_nil ?_
        refine wpO_nil ?_
        rintro w7 b7 _
        have K7 := Lib.hid (K6.out.trans ((kept_below b7).mono K6.out.size))
        clear fR fw b7
        go_wp2
        go_ret
        exact ⟨by rw [HE.out]; rfl, K7.out⟩
      | true =>
        refine wpO_quiet 3 rfl (by kernel_rfl) ?_
        simp only [List.take, List.drop]
        repeat (go_big_quiet_step (fail))
        refine wpQuiet_nil ?_
        refine wpO_load_row rfl 34 _ rfl (w.heap.size) rfl 34 _ (0, 0) _ fR.out Try.underlying34 rfl (by kernel_rfl) ?_
        simp only [Act.put, List.setIfInBounds_toArray, List.set_cons_succ, List.set_cons_zero]
        refine wpO_call (f := 35) (args := #[.agg #[.int .i64 d, .bool ag, .int .i64 xu, .int .i64 xs, .int .i64 xh, .int .i64 xa, .int .i64 xn, .string xt, .bool xp, .int .i64 g, .int .i64 yu, .int .i64 ys, .int .i64 yh, .int .i64 ya, .int .i64 yn, .string yt, .bool yp, .bool ea]]) (.agg #[.int .i64 g, .bool ea]) rfl (fun w' => by simp [go_sem]) (fun w' _ _ => cV.out w') ?_
        simp only [Act.put, List.setIfInBounds_toArray, List.set_cons_succ, List.set_cons_zero]
        refine wpO_quiet 3 rfl (by kernel_rfl) ?_
        simp only [List.take, List.drop]
        repeat (go_big_quiet_step (fail))
        refine wpQuiet_nil ?_
        refine wpO_nil ?_
        rintro w7 b7 _
        have K7 := Lib.hid (K6.out.trans ((kept_below b7).mono K6.out.size))
        clear fR fw b7
        go_wp2
        go_ret
        exact ⟨by rw [HE.out, Bool.true_and]; rfl, K7.out⟩

end Go.Proofs.Ytpegjdknlkpkbaa.Tx

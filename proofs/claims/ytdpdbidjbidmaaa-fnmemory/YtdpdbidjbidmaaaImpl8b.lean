/-
  What SeenIn and MemoryOk of the program answer. Conditions: the list has at most 1048576 numbers, each an int64.
-/
import Derived.Test.YtdpdbidjbidmaaaImpl2
import Derived.Test.YtdpdbidjbidmaaaImpl8a
import Derived.Test.YtdpdbidjbidmaaaMem6
namespace Go.Proofs.Ytdpdbidjbidmaaa.Tx
open Go.RowKit

theorem isTime_any (n : Int) (w : World) : Calls Try.prog 39 #[.int .i64 n] w fun e w' => e = .returned (.bool (inB n 0 100000)) ∧ w = w' := by
  by_cases h1 : 0 ≤ n <;> by_cases h2 : n ≤ 100000
  all_goals
    go_enter Try.func39, Try.ntmps39
    go_wp2
    go_ret
    exact ⟨by simp [inB, h1, h2], rfl⟩

theorem SeenIn_impl (A : Option Addr) (n cap : Nat) (zs : List Int) (s x : Int) (w : World) (h : Nums w w.heap.size A n zs) (hi : AllI64 zs) (hx : I64 x) (hn : n ≤ 1048576) :
    Calls Try.prog 17 #[.agg #[.slice A n cap, .int .i64 s], .int .i64 x] w fun e w' => e = .returned (.bool (decide (x ∈ zs))) ∧ Below w.heap.size w w' := by
  obtain ⟨V, hV⟩ : ∃ V, w.alloc (.cells #[.slice A n cap, .int .i64 s] 26) = V := ⟨_, rfl⟩
  have K : Hid (Below w.heap.size w V) := by rw [← hV]; exact (Below.refl _ w).alloc (Nat.le_refl _) _
  have B0 : Hid (V.heap[w.heap.size]? = some (.cells #[.slice A n cap, .int .i64 s] 26)) := by rw [← hV]; exact heap1 w _
  have cP := Lib.hid (placesOf_any A n cap zs V (h.on K.out) hi hn)
  have cH : Hid (∀ (b : Nat) (w' : World), Places w' b zs → Calls Try.prog 41 #[.map (some b), .int .i64 x] w' fun e w'' => e = .returned (.bool (decide (x ∈ zs))) ∧ Below w'.heap.size w' w'') := fun b w' hp => has_any b zs x hx w' hp
  generalize decide (x ∈ zs) = y at cH ⊢
  clear h hi hx
  obtain ⟨⟨a0, a1⟩, _⟩ := blk2 B0.out
  go_enter Try.func17, Try.ntmps17
  go_wp2_with fail
  clear hV a0 a1
  refine cP.out.mono ?_
  rintro e w1 ⟨rfl, hp, b⟩
  have HP := Lib.hid hp
  replace K := Lib.hid (K.out.trans (b.mono K.out.size))
  clear b hp cP
  go_wp2_with fail
  refine (cH.out _ _ HP.out).mono ?_
  rintro e w2 ⟨rfl, b⟩
  replace K := Lib.hid (K.out.trans (b.mono K.out.size))
  clear b
  go_wp2
  go_ret
  exact ⟨rfl, K.out⟩

set_option maxHeartbeats 2000000 in
theorem where_any (A : Option Addr) (n cap : Nat) (zs : List Int) (w : World) (h : Nums w w.heap.size A n zs) (hn : n ≤ 1048576) :
    Calls Try.prog 63 #[.slice A n cap, .func (.func 38) #[] #[]] w fun e w' => (∃ (B : Option Addr) (c : Nat), e = .returned (.slice B (zs.filter isDrawB).length c)) ∧ Below w.heap.size w w' := by
  obtain ⟨i0, hi, hz0, hz1, hz2⟩ := info_parts infoInt64
  have HL := Lib.hid h.1
  have HC := Lib.hid h.2
  clear h
  go_enter Try.func63, Try.ntmps63
  go_wp2
  go_loopw [5, 11] (fun v i wr => ∃ (j : Nat) (g c : Nat), j ≤ n ∧ i = .int .i64 j ∧ v = .slice (some ⟨g, 0, none⟩) ((zs.take j).filter isDrawB).length c ∧ Hid (OwnN wr w.heap.size ((zs.take j).filter isDrawB) (some ⟨g, 0, none⟩) ((zs.take j).filter isDrawB).length c) ∧ Hid (Below w.heap.size w wr)) (fun _ i _ => n - (intOf i).toNat)
  case atStart => exact ⟨0, w.heap.size, 0, Nat.zero_le _, rfl, rfl, ⟨World.ownsRow_made w #[] 0 (Nat.le_refl _) (Nat.zero_le _) rfl⟩, (Below.refl _ w).alloc (Nat.le_refl _) _⟩
  case round =>
    obtain ⟨j, g, c, hj, rfl, rfl, hO, hB⟩ := hrel
    have hfl : ((zs.take j).filter isDrawB).length ≤ n := Nat.le_trans (List.length_filter_le _ _) (by rw [List.length_take, HL.out]; omega)
    by_cases hlt : j < n
    · obtain ⟨b, off, rfl, hb, hc⟩ := HC.out (by omega)
      have hck := (hB.out.cell (p := ⟨b, off + j, none⟩) hb).trans (hc j hlt)
      obtain ⟨y, hy⟩ : ∃ y, y = zs[j]?.getD 0 := ⟨_, rfl⟩
      rw [← hy] at hck
      have HT : Hid ((zs.take (j + 1)).filter isDrawB = (zs.take j).filter isDrawB ++ if isDrawB y = true then [y] else []) := by
        show _ = _
        rw [take_snocN zs j (by rw [HL.out]; exact hlt), List.filter_append, ← hy]
        by_cases h : isDrawB y = true <;> simp [h]
      clear hc hy
      generalize hL : (zs.take j).filter isDrawB = L at hO HT hfl ⊢
      clear hL
      have cD := IsDraw_same y
      have hlo := (hO.out.lt (g := g) rfl).2
      have hbs := hB.out.size
      cases hd : isDrawB y with
      | false =>
        rw [hd] at cD HT
        clear hd
        go_wp2_with fail
        refine (cD _).mono ?_
        rintro e w1 ⟨rfl, rfl⟩
        go_wp2
        go_roundw
        case rel => exact ⟨j + 1, g, c, by omega, by go_num, by rw [HT.out]; simp, by rw [HT.out]; simpa using hO, hB⟩
        case measure => simp [intOf]; omega
      | true =>
        rw [hd] at cD HT
        clear hd
        go_wp2_with fail
        refine (cD _).mono ?_
        rintro e w1 ⟨rfl, rfl⟩
        go_wp2_with (at_builtin; refine wpList_append_own _ rfl _ _ 78 rfl w.heap.size 2 i0 (.int .i64 0) 1 8 Try.underlying78 hi hz0 hz1 hz2 rfl (by decide) _ _ _ rfl (hO.out.own.alloc _) ⟨wr.heap.size, 0, none⟩ 1 1 [.int .i64 y] rfl rfl (cell_one_new _ _ _) (by simp [Value.oneCell']) (by unfold maxLen; omega) (by omega) (by simp; omega) ?_; intro v' w3 hown' hgrow _; obtain ⟨g', c', rfl, hM'⟩ := OwnN.snoc hown'; have M' := Lib.hid hM'; have GR := Lib.hid hgrow; clear hown' hgrow hM')
        go_roundw
        case rel => exact ⟨j + 1, g', c', by omega, by go_num, by rw [HT.out]; simp, by rw [HT.out]; simpa using M', (hB.out.alloc hB.out.size _).grown GR.out (by simp; omega) (fun k e => by have e1 : g = k := Option.some.inj e; have := hO.out.lt (g := g) rfl; omega)⟩
        case measure => simp [intOf]; omega
    · obtain rfl : j = n := by omega
      rw [List.take_of_length_le (by rw [HL.out]; exact Nat.le_refl _)]
      go_wp2
      go_ret
      exact ⟨⟨_, _, rfl⟩, hB.out⟩

theorem all_any (A : Option Addr) (n cap : Nat) (zs : List Int) (w : World) (h : Nums w w.heap.size A n zs) (hn : n ≤ 1048576) :
    Calls Try.prog 61 #[.slice A n cap, .func (.func 38) #[] #[]] w fun e w' => e = .returned (.bool (zs.all isDrawB)) ∧ Below w.heap.size w w' := by
  have cW := where_any A n cap zs w h hn
  have he : (((zs.filter isDrawB).length : Int) == (n : Int)) = zs.all isDrawB := by
    rw [← h.1, Bool.eq_iff_iff, List.all_eq_true, beq_iff_eq]
    exact ⟨fun e => List.length_filter_eq_length_iff.1 (by omega), fun e => by rw [List.length_filter_eq_length_iff.2 e]⟩
  generalize (zs.filter isDrawB).length = m at cW he
  generalize zs.all isDrawB = y at he ⊢
  clear h
  go_enter Try.func61, Try.ntmps61
  go_wp2_with fail
  refine cW.mono ?_
  rintro e w1 ⟨⟨B, c, rfl⟩, b⟩
  go_wp2
  go_ret
  exact ⟨rfl, b⟩

theorem eq_flaws (a b c d : Bool) (w : World) : (Op.equalIn 10000 66 (.agg #[.bool a, .bool b, .bool c, .bool d]) (.agg #[.bool false, .bool false, .bool false, .bool false])).run Try.prog w = .ok (!a && (!b && (!c && !d))) w := by
  cases a <;> cases b <;> cases c <;> cases d <;> simp [go_sem]

set_option maxRecDepth 100000 in
set_option maxHeartbeats 2000000 in
theorem flawsOf_any (A : Option Addr) (n cap : Nat) (zs : List Int) (s : Int) (w : World) (h : Nums w w.heap.size A n zs) (hn : n ≤ 1048576) :
    Calls Try.prog 47 #[.agg #[.slice A n cap, .int .i64 s]] w fun e w' => e = .returned (.agg #[.bool (decide (6 < n)), .bool (!zs.all isDrawB), .bool (!unlikeB zs), .bool (!inB s 0 100000)]) ∧ Below w.heap.size w w' := by
  obtain ⟨V, hV⟩ : ∃ V, (w.alloc (.cells #[.slice A n cap, .int .i64 s] 26)).alloc (.cells #[.bool false, .bool false, .bool false, .bool false] 66) = V := ⟨_, rfl⟩
  have K : Hid (Below w.heap.size w V) := by rw [← hV]; exact ((Below.refl _ w).alloc (Nat.le_refl _) _).alloc (by simp) _
  have B0 : Hid (V.heap[w.heap.size]? = some (.cells #[.slice A n cap, .int .i64 s] 26)) := by rw [← hV]; exact heap2a w _ _
  have R0 : Hid (V.heap[w.heap.size + 1]? = some (.cells #[.bool false, .bool false, .bool false, .bool false] 66)) := by rw [← hV]; exact heap2b w _ _
  have sV : V.heap.size = w.heap.size + 2 := by rw [← hV]; simp
  have HN := Lib.hid (h.below K.out)
  clear h
  have cA : Hid (∀ w' : World, Nums w' w'.heap.size A n zs → Calls Try.prog 61 #[.slice A n cap, .func (.func 38) #[] #[]] w' fun e w'' => e = .returned (.bool (zs.all isDrawB)) ∧ Below w'.heap.size w' w'') := fun w' h' => all_any A n cap zs w' h' hn
  have cU : Hid (∀ w' : World, Nums w' w'.heap.size A n zs → Calls Try.prog 62 #[.slice A n cap] w' fun e w'' => e = .returned (.bool (unlikeB zs)) ∧ Below w'.heap.size w' w'') := fun w' h' => AllUnlike_impl A n cap zs w' h' hn
  have cT : Hid (∀ w' : World, Calls Try.prog 39 #[.int .i64 s] w' fun e w'' => e = .returned (.bool (inB s 0 100000)) ∧ Below w'.heap.size w' w'') := fun w' => (isTime_any s w').mono fun _ _ ⟨he, hw⟩ => ⟨he, hw ▸ Below.refl _ _⟩
  generalize zs.all isDrawB = y1 at cA ⊢
  generalize unlikeB zs = y2 at cU ⊢
  generalize inB s 0 100000 = y3 at cT ⊢
  have hd : decide ((6 : Int) < (n : Int)) = decide (6 < n) := by
    by_cases h6 : 6 < n
    · rw [decide_eq_true h6, decide_eq_true (by omega)]
    · rw [decide_eq_false h6, decide_eq_false (by omega)]
  generalize decide (6 < n) = y0 at hd ⊢
  go_enter Try.func47, Try.ntmps47
  go_wp2
  clear hV
  have hmr : (plainEnv V [w.heap.size + 1]).mine (w.heap.size + 1) := Or.inr (by simp)
  refine wp_region_own (W := V) [w.heap.size + 1] (fun w' => w'.heap[w.heap.size + 1]? = some (.cells #[.bool false, .bool false, .bool false, .bool false] 66)) (stays_blk hmr _) R0.out [0, 0, 0, 0, 0, 0, 1, 0, 0, 0, 1, 0, 0, 0, 1, 0, 0, 3] (by kernel_rfl) (by kernel_rfl) (by kernel_rfl) ?_
  have fB : ∀ q : In (plainEnv V [w.heap.size + 1]), _ := fun q => (blk2 (q.block B0.out (by simp))).1
  have NN : Hid (∀ w' : World, (plainEnv V [w.heap.size + 1]).C w' → Nums w' w'.heap.size A n zs) := fun w' hC => (HN.out.below (KeptBut.below hC (B := w.heap.size) (by omega) (by simp))).mono (by have := KeptBut.size hC; omega)
  refine wpO_quiet 6 rfl (by kernel_rfl) ?_
  simp only [List.take, List.drop]
  repeat (go_big_quiet_step (fail))
  refine wpQuiet_nil ?_
  refine wpO_call (f := 61) (args := #[.slice A n cap, .func (.func 38) #[] #[]]) (.bool y1) rfl (fun w' => by simp [go_sem]) (fun w' hC _ => cA.out w' (NN.out w' hC)) ?_
  simp only [Act.put, List.setIfInBounds_toArray, List.set_cons_succ, List.set_cons_zero]
  refine wpO_quiet 3 rfl (by kernel_rfl) ?_
  simp only [List.take, List.drop]
  repeat (go_big_quiet_step (fail))
  refine wpQuiet_nil ?_
  refine wpO_call (f := 62) (args := #[.slice A n cap]) (.bool y2) rfl (fun w' => by simp [go_sem]) (fun w' hC _ => cU.out w' (NN.out w' hC)) ?_
  simp only [Act.put, List.setIfInBounds_toArray, List.set_cons_succ, List.set_cons_zero]
  refine wpO_quiet 3 rfl (by kernel_rfl) ?_
  simp only [List.take, List.drop]
  repeat (go_big_quiet_step (fail))
  refine wpQuiet_nil ?_
  refine wpO_call (f := 39) (args := #[.int .i64 s]) (.bool y3) rfl (fun w' => by simp [go_sem]) (fun w' _ _ => cT.out w') ?_
  simp only [Act.put, List.setIfInBounds_toArray, List.set_cons_succ, List.set_cons_zero]
  refine wpO_quiet 2 rfl (by kernel_rfl) ?_
  simp only [List.take, List.drop]
  repeat (go_big_quiet_step (fail))
  refine wpQuiet_nil ?_
  refine wpO_store (g := w.heap.size + 1) (t := 66) (old := #[.bool false, .bool false, .bool false, .bool false]) (fun _ => True) #[.bool y0, .bool (!y1), .bool (!y2), .bool (!y3)] rfl rfl rfl rfl hmr (by kernel_rfl) rfl rfl (fun w' h => ⟨trivial, h⟩) stays_true (away_true _) ?_
  simp only [Act.put]
  refine wpO_nil ?_
  rintro w9 b' ⟨_, hblk⟩
  have b := KeptBut.below b' (B := w.heap.size) (by omega) (by simp)
  go_wp2
  exact row_ret (r := w.heap.size + 1) (cs := #[.bool y0, .bool (!y1), .bool (!y2), .bool (!y3)]) rfl rfl hblk Try.underlying66 rfl (by kernel_rfl) rfl ⟨rfl, K.out.trans b⟩

end Go.Proofs.Ytdpdbidjbidmaaa.Tx

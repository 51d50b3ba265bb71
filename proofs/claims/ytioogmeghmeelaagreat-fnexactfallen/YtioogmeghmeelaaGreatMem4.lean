/-
  What the model's NewMemory, MayHear and Noted answer. Condition: the list has at most 1048576 numbers, and a nil list has no room.
-/
import Derived.Test.YtioogmeghmeelaaGreatMem3
namespace Go.Proofs.YtioogmeghmeelaaGreat.Tx
open Go.RowKit

/-- A Memory that the call made, and a flag. -/
def MemOut (zs : List Int) (s : Int) (b : Bool) (w : World) (e : Ending) (w' : World) : Prop :=
  ∃ (A : Option Addr) (n cap : Nat), e = .returned (.tuple #[.agg #[.slice A n cap, .int .i64 s], .bool b]) ∧ OwnN w' w.heap.size zs A n cap ∧ Below w.heap.size w w'

set_option maxRecDepth 100000 in
theorem NewMemory_spec (now : Int) (w : World) : Calls Tryz.prog 14 #[.int .i64 now] w (MemOut [] (sinceI [] now) (memB [] now) w) := by
  have hc := l6Time_any now
  have hm := memB_nil now
  cases hb : inB now 0 100000 with
  | false =>
    rw [hb] at hc hm
    rw [sinceI_false hm, hm]
    clear hb hm
    go_enter Tryz.func14, Tryz.ntmps14
    go_wp2_with (go_at_call 32; refine (hc _).mono ?_; rintro e w1 ⟨rfl, rfl⟩)
    exact row_ret2 (r := w.heap.size) (cs := #[.slice none 0 0, .int .i64 0]) rfl rfl rfl (heap1 w _) Tryz.underlying29 rfl (by kernel_rfl) rfl
      ⟨none, 0, 0, rfl, ownN_nil _ _, (Below.refl _ w).alloc (Nat.le_refl _) _⟩
  | true =>
    rw [hb] at hc hm
    rw [sinceI_true hm, hm]
    clear hb hm
    go_enter Tryz.func14, Tryz.ntmps14
    go_wp2_with (go_at_call 32; refine (hc _).mono ?_; rintro e w1 ⟨rfl, rfl⟩)
    exact row_ret2 (r := w.heap.size) (cs := #[.slice none 0 0, .int .i64 now]) rfl rfl rfl (heap1 w _) Tryz.underlying29 rfl (by kernel_rfl) rfl
      ⟨none, 0, 0, rfl, ownN_nil _ _, (Below.refl _ w).alloc (Nat.le_refl _) _⟩

theorem stays_row {W : World} {L : List Nat} {e : TypeId} {sz n gb cb : Nat} {xs : List Value} : Stays (plainEnv W L) (fun w => w.ownsRow W.heap.size e sz (.slice (some ⟨gb, 0, none⟩) n cb) n xs) := fun w w' hc h b => by
  refine ⟨h.1, ?_⟩
  rcases h.2 with ⟨e, _⟩ | ⟨g, cap, cur, hv, hg, hh, r⟩
  · cases e
  · exact .inr ⟨g, cap, cur, hv, hg, (plainEnv W L).blk hc b (.inl hg) hh, r⟩
theorem away_row {base g0 : Nat} (hg0 : g0 < base) {e : TypeId} {sz n gb cb : Nat} {xs : List Value} : Away g0 (fun w => w.ownsRow base e sz (.slice (some ⟨gb, 0, none⟩) n cb) n xs) := fun w w' hw h => by
  refine ⟨h.1, ?_⟩
  rcases h.2 with ⟨e, _⟩ | ⟨g, cap, cur, hv, hg, hh, r⟩
  · cases e
  · exact .inr ⟨g, cap, cur, hv, hg, (hw g (blk_in hh) (by omega)).trans hh, r⟩

set_option maxRecDepth 100000 in
set_option maxHeartbeats 2000000 in
theorem l8Copy_any (A : Option Addr) (n cap : Nat) (zs : List Int) (s : Int) (w : World) (h : Nums w w.heap.size A n zs) (hz : A = none → cap = 0) (hn : n ≤ 1048576) :
    Calls Tryz.prog 33 #[.agg #[.slice A n cap, .int .i64 s]] w fun e w' => ∃ g cb, e = .returned (.agg #[.slice (some ⟨g, 0, none⟩) n cb, .int .i64 s]) ∧ OwnN w' w.heap.size zs (some ⟨g, 0, none⟩) n cb ∧ Below w.heap.size w w' := by
  obtain ⟨i0, hi, hz0, hz1, hz2⟩ := info_parts infoInt64
  have HL := Lib.hid h.1
  obtain ⟨V, hV⟩ : ∃ V, (w.alloc (.cells #[.slice A n cap, .int .i64 s] 29)).alloc (.cells #[.slice none 0 0, .int .i64 0] 29) = V := ⟨_, rfl⟩
  have K : Hid (Below w.heap.size w V) := by rw [← hV]; exact ((Below.refl _ w).alloc (Nat.le_refl _) _).alloc (by simp) _
  have B0 : Hid (V.heap[w.heap.size]? = some (.cells #[.slice A n cap, .int .i64 s] 29)) := by rw [← hV]; exact heap2a w _ _
  have R0 : Hid (V.heap[w.heap.size + 1]? = some (.cells #[.slice none 0 0, .int .i64 0] 29)) := by rw [← hV]; exact heap2b w _ _
  have sV : V.heap.size = w.heap.size + 2 := by rw [← hV]; simp
  have HN := Lib.hid (h.below K.out)
  clear h
  go_enter Tryz.func33, Tryz.ntmps33
  go_wp2
  clear hV
  have hmr : (plainEnv V [w.heap.size + 1]).mine (w.heap.size + 1) := Or.inr (by simp)
  refine wp_region_own (W := V) [w.heap.size + 1] (fun w' => w'.heap[w.heap.size + 1]? = some (.cells #[.slice none 0 0, .int .i64 0] 29)) (stays_blk hmr _) R0.out [2, 0, 0, 3, 0, 0, 0, 3] (by kernel_rfl) (by kernel_rfl) (by kernel_rfl) ?_
  have fB : ∀ q : In (plainEnv V [w.heap.size + 1]), _ := fun q => (blk2 (q.block B0.out (by simp))).1
  refine wpO_row (.cells #[] 2) 0 rfl (fun w' => by simp [go_sem]) fun g0 mg0 _ => ?_
  simp only [Act.put, List.setIfInBounds_toArray, List.set_cons_succ, List.set_cons_zero]
  refine wpO_quiet 2 rfl (by kernel_rfl) ?_
  simp only [List.take, List.drop]
  repeat (go_big_quiet_step (fail))
  refine wpQuiet_nil ?_
  rcases A with _ | ad
  · obtain rfl : cap = 0 := hz rfl
    have hn0 : n = 0 := by
      rcases Nat.eq_zero_or_pos n with h | h
      · exact h
      · obtain ⟨_, _, e, _⟩ := HN.out.2 h; cases e
    subst hn0
    have hzs : zs = [] := List.length_eq_zero_iff.1 HL.out
    subst hzs
    refine wpO_read (.slice (some ⟨g0, 0, none⟩) 0 0) rfl (stays_and (stays_blk hmr _) (stays_blk (Or.inl mg0) _)) (fun w' hC hF => ?_) ?_
    · have := run_append_owned_none w' V.heap.size 22 22 2 i0 1 Tryz.underlying22 hi _ 0 [] (madeG_nil (B := V.heap.size) hF.2 mg0).own
      simp only [execOp, resolve, invoke, builtin, Sem.run_bind, Sem.run_pure, Result.andThen_ok, List.map_toArray, List.map_cons, List.map_nil]
      simp [Act.eval, this]
    have HH : ∀ w' : World, (w'.heap[w.heap.size + 1]? = some (.cells #[.slice none 0 0, .int .i64 0] 29) ∧ w'.heap[g0]? = some (.cells #[] 2)) → w'.ownsRow V.heap.size 2 1 (.slice (some ⟨g0, 0, none⟩) 0 0) 0 (([] : List Int).map (Value.int .i64)) := fun w' h => (madeG_nil (B := V.heap.size) h.2 mg0).own
    simp only [Act.put, List.setIfInBounds_toArray, List.set_cons_succ, List.set_cons_zero]
    refine wpO_quiet 3 rfl (by kernel_rfl) ?_
    simp only [List.take, List.drop]
    repeat (go_big_quiet_step (fail))
    refine wpQuiet_nil ?_
    refine wpO_store (g := w.heap.size + 1) (t := 29) (old := #[.slice none 0 0, .int .i64 0]) (fun w' => w'.ownsRow V.heap.size 2 1 (.slice (some ⟨g0, 0, none⟩) 0 0) 0 (([] : List Int).map (Value.int .i64))) #[.slice (some ⟨g0, 0, none⟩) 0 0, .int .i64 s] rfl rfl rfl rfl hmr (by kernel_rfl) rfl rfl (fun w' h => ⟨HH w' h, h.1⟩) stays_row (away_row (by omega)) ?_
    simp only [Act.put]
    refine wpO_nil ?_
    rintro w9 b' ⟨hown, hblk⟩
    have b := KeptBut.below b' (B := w.heap.size) (by omega) (by simp)
    go_wp2
    exact row_ret (r := w.heap.size + 1) (cs := #[.slice (some ⟨g0, 0, none⟩) 0 0, .int .i64 s]) rfl rfl hblk Tryz.underlying29 rfl (by kernel_rfl) rfl
      ⟨g0, 0, rfl, OwnN.mono (base := V.heap.size) ⟨hown⟩ (by omega), K.out.trans b⟩
  · refine wpO_append0 (fun w' => w'.heap[w.heap.size + 1]? = some (.cells #[.slice none 0 0, .int .i64 0] 29)) _ _ 22 rfl rfl V.heap.size 2 i0 (.int .i64 0) 1 8 Tryz.underlying22 hi hz0 hz1 hz2 rfl (by decide) 0 [] g0 0 rfl (Env.own _ mg0) ad n cap (zs.map (Value.int .i64)) rfl (by simp [HL.out]) (by simp [Value.oneCell']) (by unfold maxLen; omega) (by omega) (Nat.le_refl _) (fun _ h => .inl h) (fun w' hC hF => ⟨hF.1, (madeG_nil (B := V.heap.size) hF.2 mg0).own, fun j u hu => ?_⟩) (stays_blk hmr _) (away_blk (by have : V.heap.size ≤ g0 := mg0; omega) _) (fun g1 c1 hl1 => ?_)
    · have hj : j < n := by
        have := (List.getElem?_eq_some_iff.1 hu).1
        simp [HL.out] at this; exact this
      obtain ⟨b, off, e, hb, hc⟩ := HN.out.2 (by omega)
      cases e
      rw [Go.WideShapes.add_plain]
      have := ((KeptBut.below hC (B := w.heap.size) (by omega) (by simp)).cell (p := ⟨b, off + j, none⟩) hb).trans (hc j hj)
      rw [this, ← hu, List.getElem?_map, List.getElem?_eq_getElem (by rw [HL.out]; exact hj)]
      rfl
    rw [Nat.zero_add, List.nil_append]
    have HH : ∀ w' : World, (w'.heap[w.heap.size + 1]? = some (.cells #[.slice none 0 0, .int .i64 0] 29) ∧ w'.ownsRow V.heap.size 2 1 (.slice (some ⟨g1, 0, none⟩) n c1) n (zs.map (Value.int .i64))) → w'.ownsRow V.heap.size 2 1 (.slice (some ⟨g1, 0, none⟩) n c1) n (zs.map (Value.int .i64)) := fun w' h => h.2
    simp only [Act.put, List.setIfInBounds_toArray, List.set_cons_succ, List.set_cons_zero]
    refine wpO_quiet 3 rfl (by kernel_rfl) ?_
    simp only [List.take, List.drop]
    repeat (go_big_quiet_step (fail))
    refine wpQuiet_nil ?_
    refine wpO_store (g := w.heap.size + 1) (t := 29) (old := #[.slice none 0 0, .int .i64 0]) (fun w' => w'.ownsRow V.heap.size 2 1 (.slice (some ⟨g1, 0, none⟩) n c1) n (zs.map (Value.int .i64))) #[.slice (some ⟨g1, 0, none⟩) n c1, .int .i64 s] rfl rfl rfl rfl hmr (by kernel_rfl) rfl rfl (fun w' h => ⟨HH w' h, h.1⟩) stays_row (away_row (by omega)) ?_
    simp only [Act.put]
    refine wpO_nil ?_
    rintro w9 b' ⟨hown, hblk⟩
    have b := KeptBut.below b' (B := w.heap.size) (by omega) (by simp)
    go_wp2
    exact row_ret (r := w.heap.size + 1) (cs := #[.slice (some ⟨g1, 0, none⟩) n c1, .int .i64 s]) rfl rfl hblk Tryz.underlying29 rfl (by kernel_rfl) rfl
      ⟨g1, c1, rfl, OwnN.mono (base := V.heap.size) ⟨hown⟩ (by omega), K.out.trans b⟩

end Go.Proofs.YtioogmeghmeelaaGreat.Tx

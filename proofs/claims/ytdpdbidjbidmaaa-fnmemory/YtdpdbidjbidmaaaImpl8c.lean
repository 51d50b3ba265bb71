/-
  What MemoryOk of the program answers, and what its recallOf makes. Conditions: the list has at most 1048576 numbers, each an int64.
-/
import Derived.Test.YtdpdbidjbidmaaaImpl8b
namespace Go.Proofs.Ytdpdbidjbidmaaa.Tx
open Go.RowKit

theorem memB_flaws {zs : List Int} {n : Nat} (hn : zs.length = n) (s : Int) : (!decide (6 < n) && (!!zs.all isDrawB && (!!unlikeB zs && !!inB s 0 100000))) = memB zs s := by
  unfold memB
  rw [hn]
  have : (!decide (6 < n)) = decide (n ≤ 6) := by
    by_cases h : n ≤ 6
    · rw [decide_eq_true h, decide_eq_false (by omega)]; rfl
    · rw [decide_eq_false h, decide_eq_true (by omega)]; rfl
  rw [this]
  simp only [Bool.not_not]
  cases zs.all isDrawB <;> cases decide (n ≤ 6) <;> rfl

theorem MemoryOk_impl (A : Option Addr) (n cap : Nat) (zs : List Int) (s : Int) (w : World) (h : Nums w w.heap.size A n zs) (hn : n ≤ 1048576) :
    Calls Try.prog 19 #[.agg #[.slice A n cap, .int .i64 s]] w fun e w' => e = .returned (.bool (memB zs s)) ∧ Below w.heap.size w w' := by
  have hf := memB_flaws h.1 s
  obtain ⟨V, hV⟩ : ∃ V, w.alloc (.cells #[.slice A n cap, .int .i64 s] 26) = V := ⟨_, rfl⟩
  have K : Hid (Below w.heap.size w V) := by rw [← hV]; exact (Below.refl _ w).alloc (Nat.le_refl _) _
  have B0 : Hid (V.heap[w.heap.size]? = some (.cells #[.slice A n cap, .int .i64 s] 26)) := by rw [← hV]; exact heap1 w _
  have cF := Lib.hid (flawsOf_any A n cap zs s V (h.on K.out) hn)
  clear h
  generalize decide (6 < n) = y0 at cF hf
  generalize (!zs.all isDrawB) = y1 at cF hf
  generalize (!unlikeB zs) = y2 at cF hf
  generalize (!inB s 0 100000) = y3 at cF hf
  have hq := eq_flaws y0 y1 y2 y3
  rw [hf] at hq
  clear hf
  generalize memB zs s = y at hq ⊢
  obtain ⟨⟨a0, a1⟩, _⟩ := blk2 B0.out
  go_enter Try.func19, Try.ntmps19
  go_wp2_with fail
  clear hV a0 a1
  refine cF.out.mono ?_
  rintro e w1 ⟨rfl, b⟩
  replace K := Lib.hid (K.out.trans (b.mono K.out.size))
  clear b
  go_wp2
  go_ret
  exact ⟨rfl, K.out⟩

theorem places_away {g x : Nat} (h : x ≠ g) (zs : List Int) : Away g (fun w => Places w x zs) := fun w w' hw hp => by
  obtain ⟨es, clock, hb, r⟩ := hp
  exact ⟨es, clock, (hw x (blk_in hb) h).trans hb, r⟩
/-- What recallOf hands back. -/
def RecOut (zs : List Int) (s : Int) (w : World) (e : Ending) (w' : World) : Prop :=
  ∃ b, e = .returned (.tuple #[.agg #[.map (some b), .int .i64 (sinceI zs s)], .bool (memB zs s)]) ∧ Places w' b (seenL zs s) ∧ w.heap.size ≤ b ∧ Below w.heap.size w w'

set_option maxRecDepth 100000 in
set_option maxHeartbeats 4000000 in
theorem recallOf_any (A : Option Addr) (n cap : Nat) (zs : List Int) (s : Int) (w : World) (h : Nums w w.heap.size A n zs) (hi : AllI64 zs) (hn : n ≤ 1048576) :
    Calls Try.prog 37 #[.agg #[.slice A n cap, .int .i64 s]] w (RecOut zs s w) := by
  obtain ⟨V, hV⟩ : ∃ V, (w.alloc (.cells #[.slice A n cap, .int .i64 s] 26)).alloc (.cells #[.map none, .int .i64 0] 58) = V := ⟨_, rfl⟩
  have K : Hid (Below w.heap.size w V) := by rw [← hV]; exact ((Below.refl _ w).alloc (Nat.le_refl _) _).alloc (by simp) _
  have B0 : Hid (V.heap[w.heap.size]? = some (.cells #[.slice A n cap, .int .i64 s] 26)) := by rw [← hV]; exact heap2a w _ _
  have R0 : Hid (V.heap[w.heap.size + 1]? = some (.cells #[.map none, .int .i64 0] 58)) := by rw [← hV]; exact heap2b w _ _
  have sV : V.heap.size = w.heap.size + 2 := by rw [← hV]; simp
  have HN := Lib.hid (h.on K.out)
  have HI := Lib.hid hi
  clear h hi
  go_enter Try.func37, Try.ntmps37
  go_wp2
  clear hV
  refine wp_region_own (W := V) [] (fun _ => True) stays_true trivial [0, 0, 1, 0, 0, 0, 2, 3] (by kernel_rfl) (by kernel_rfl) (by kernel_rfl) ?_
  have fB : ∀ q : In (plainEnv V []), _ := fun q => (blk2 (q.block B0.out (by simp))).1
  refine wpO_quiet 2 rfl (by kernel_rfl) ?_
  simp only [List.take, List.drop]
  repeat (go_big_quiet_step (fail))
  refine wpQuiet_nil ?_
  refine wpO_callx (f := 46) (args := #[.slice A n cap]) (α := Nat) (fun x => .map (some x)) (fun x => [x]) (fun x w' => Places w' x zs) rfl (fun w' => by simp [go_sem]) (fun x w1 w2 hw h b => h.on b) (fun G => ?_) (fun w' hw hF => ?_) (fun x hx => ?_)
  · obtain ⟨g, hg, hn⟩ := fresh_above V.heap.size G
    exact ⟨g, fun k hk => by simp at hk; subst hk; exact ⟨hg, hn⟩⟩
  · exact (placesOf_any A n cap zs w' (HN.out.on (kept_below hw)) HI.out hn).mono fun e w'' ⟨he, hp, hb⟩ => ⟨w'.heap.size, he, hp, hb, fun k hk => by simp at hk; subst hk; exact ⟨Nat.le_refl _, hp.lt⟩⟩
  have hxl : V.heap.size ≤ x := (hx x (by simp)).1
  simp only [Act.put, List.setIfInBounds_toArray, List.set_cons_succ, List.set_cons_zero]
  refine wpO_quiet 3 rfl (by kernel_rfl) ?_
  simp only [List.take, List.drop]
  repeat (go_big_quiet_step (fail))
  refine wpQuiet_nil ?_
  refine wpO_alloc (.cells #[.map none, .int .i64 0] 58) rfl (fun w' => by simp [go_sem]) fun g hg hgG => ?_
  have hgx : x ≠ g := fun e => hgG (by simp [e])
  have hgl : V.heap.size ≤ g := hg
  simp only [Act.put, List.setIfInBounds_toArray, List.set_cons_succ, List.set_cons_zero]
  refine wpO_store (g := g) (t := 58) (old := #[.map none, .int .i64 0]) (fun w' => Places w' x zs) #[.map (some x), .int .i64 s] rfl rfl rfl rfl (Or.inl hg) (by kernel_rfl) rfl rfl (fun w' h => ⟨h.1.2, h.2⟩) (fun w1 w2 hw h b => h.on b) (places_away hgx zs) ?_
  simp only [Act.put]
  refine wpO_nil ?_
  rintro w1 b' ⟨hp, hblk⟩
  have b := kept_below b'
  have P := Lib.hid hp
  have G := Lib.hid hblk
  have B := Lib.hid (blk_on b B0.out)
  have R := Lib.hid (blk_on b R0.out)
  have N := Lib.hid (HN.out.on b)
  replace K := Lib.hid (K.out.trans (b.mono K.out.size))
  have s1 := b.size
  clear b b' hp hblk B0 R0 HN fB hx hg hgG
  have cM := Lib.hid (MemoryOk_impl A n cap zs s w1 N.out hn)
  obtain ⟨⟨a0, a1⟩, _⟩ := blk2 B.out
  go_wp2_with fail
  clear a0 a1
  refine cM.out.mono ?_
  cases hM : memB zs s with
  | true =>
    have E1 := Lib.hid (sinceI_true hM)
    have E2 := Lib.hid (seenL_true hM)
    have E3 := Lib.hid hM
    rintro e w2 ⟨rfl, b⟩
    replace P := Lib.hid (P.out.on b)
    replace G := Lib.hid (blk_on b G.out)
    replace R := Lib.hid (blk_on b R.out)
    replace K := Lib.hid (K.out.trans (b.mono K.out.size))
    clear b hM cM
    obtain ⟨⟨g0, g1⟩, _⟩ := blk2 G.out
    obtain ⟨⟨r0, r1⟩, p0, p1⟩ := blk2 R.out
    go_wp2
    exact row_ret2 (r := w.heap.size + 1) (cs := #[.map (some x), .int .i64 s]) rfl rfl rfl (setAll_whole (vs := [.map (some x), .int .i64 s]) R.out rfl) Try.underlying58 rfl (by kernel_rfl) rfl
      ⟨x, by rw [E1.out, E3.out]; rfl, by rw [E2.out]; exact places_away (g := w.heap.size + 1) (by omega) zs _ _ (fun k _ hk => setAll_off hk [.map (some x), .int .i64 s] 0) P.out, by omega, setAll_below (g := w.heap.size + 1) (by omega) [.map (some x), .int .i64 s] 0 K.out⟩
  | false =>
    have E1 := Lib.hid (sinceI_false hM)
    have E2 := Lib.hid (seenL_false hM)
    have E3 := Lib.hid hM
    rintro e w2 ⟨rfl, b⟩
    replace P := Lib.hid (P.out.on b)
    replace G := Lib.hid (blk_on b G.out)
    replace R := Lib.hid (blk_on b R.out)
    replace K := Lib.hid (K.out.trans (b.mono K.out.size))
    have s2 := b.size
    clear b hM cM
    go_wp2_with fail
    refine (forget_any g x zs s w2 P.out G.out).mono ?_
    rintro e w3 ⟨rfl, hp, hg, hb⟩
    replace P := Lib.hid hp
    replace G := Lib.hid hg
    have b := hb (w.heap.size + 2) (by omega) (by omega)
    replace R := Lib.hid ((b.block _ (by omega)).trans R.out)
    replace K := Lib.hid (K.out.trans (b.mono (by omega)))
    clear hp hg hb b
    obtain ⟨⟨g0, g1⟩, _⟩ := blk2 G.out
    obtain ⟨⟨r0, r1⟩, p0, p1⟩ := blk2 R.out
    go_wp2
    exact row_ret2 (r := w.heap.size + 1) (cs := #[.map (some x), .int .i64 0]) rfl rfl rfl (setAll_whole (vs := [.map (some x), .int .i64 0]) R.out rfl) Try.underlying58 rfl (by kernel_rfl) rfl
      ⟨x, by rw [E1.out, E3.out]; rfl, by rw [E2.out]; exact places_away (g := w.heap.size + 1) (by omega) [] _ _ (fun k _ hk => setAll_off hk [.map (some x), .int .i64 0] 0) P.out, by omega, setAll_below (g := w.heap.size + 1) (by omega) [.map (some x), .int .i64 0] 0 K.out⟩

end Go.Proofs.Ytdpdbidjbidmaaa.Tx

/-
  What Begins of the program and of the model answer: whether the first list is the beginning of the second, or all of it. Condition: each list has at most 1048576 strings.
-/
import Derived.Test.YtjgkhjdndeiidaaSeqs
namespace Go.Proofs.Ytjgkhjdndeiidaa.Tx
open Go.RowKit Go.Shelf

attribute [local go_sem] Oper.semAt_some

def beginsB (ss ts : List ByteArray) : Bool := decide (ss.length ≤ ts.length) && decide (ss = ts.take ss.length)
theorem begins_long {ss ts : List ByteArray} (h : ts.length < ss.length) : beginsB ss ts = false := by
  have : decide (ss.length ≤ ts.length) = false := by simp; omega
  simp [beginsB, this]
theorem begins_short {ss ts : List ByteArray} (h : ss.length ≤ ts.length) : beginsB ss ts = decide (ss = ts.take ss.length) := by simp [beginsB, h]

set_option maxHeartbeats 1000000 in
theorem Begins_spec (A B : Option Addr) (n m ca cb : Nat) (ss ts : List ByteArray) (w : World) (hA : Strs w w.heap.size A n ss) (hB : Strs w w.heap.size B m ts) (hn : n ≤ 1048576) (hm : m ≤ 1048576) (hcm : m ≤ cb) :
    Calls Try.prog 18 #[.slice A n ca, .slice B m cb] w fun e w' => e = .returned (.bool (beginsB ss ts)) ∧ ∃ q, w' = w.drewN q := by
  have HA := Lib.hid hA
  have HB := Lib.hid hB
  clear hA hB
  by_cases hle : n ≤ m
  · have HR : Hid (beginsB ss ts = decide (ss = ts.take n)) := by
      show _ = _
      rw [begins_short (by rw [HA.out.1, HB.out.1]; exact hle), HA.out.1]
    have hB1 : Strs w w.heap.size B n (ts.take n) := by
      refine ⟨by simp [HB.out.1]; omega, fun h0 => ?_⟩
      obtain ⟨b, off, e, hb, hc⟩ := HB.out.2 (by omega)
      exact ⟨b, off, e, hb, fun j hj => by rw [hc j (by omega)]; simp [hj]⟩
    have H1 := Lib.hid hB1
    clear hB1
    go_enter Try.func18, Try.ntmps18
    go_wp2_with (go_at_call 36; refine (l1Same_any _ _ _ _ _ _ ss (ts.take n) _ (by exact HA.out) (by exact H1.out) hn hn).mono ?_; rintro e w' ⟨rfl, q, rfl⟩)
    go_ret
    exact ⟨by rw [HR.out]; rfl, q, rfl⟩
  · have HR : Hid (beginsB ss ts = false) := begins_long (by rw [HA.out.1, HB.out.1]; omega)
    go_enter Try.func18, Try.ntmps18
    go_wp2
    go_ret
    exact ⟨by rw [HR.out]; rfl, 0, rfl⟩

theorem begins_parts {ss ts : List ByteArray} (h : beginsB ss ts = true) : ss.length ≤ ts.length ∧ decide (ss = ts.take ss.length) = true := by
  unfold beginsB at h
  rw [Bool.and_eq_true] at h
  exact ⟨of_decide_eq_true h.1, h.2⟩
theorem begins_yes {ss ts : List ByteArray} (hle : ss.length ≤ ts.length) (h : ∀ p ∈ pairs ss ss.length, ts[p.1]? = some p.2) : beginsB ss ts = true := by
  rw [begins_short hle, decide_eq_true_iff]
  apply List.ext_getElem
  · simp; omega
  · intro i h1 h2
    have := h (i, ss[i]?.getD ByteArray.empty) (by simp only [pairs, List.mem_map, List.mem_range]; exact ⟨i, h1, rfl⟩)
    simp only [List.getElem?_eq_getElem h1, Option.getD_some] at this
    rw [List.getElem_take]
    rw [List.getElem?_eq_getElem (by omega)] at this
    injection this with this
    exact this.symm
theorem begins_no {ss ts : List ByteArray} (p : Nat × ByteArray) (hs : ss[p.1]? = some p.2) (ht : ts[p.1]? ≠ some p.2) : beginsB ss ts = false := by
  have hd : decide (ss = ts.take ss.length) = false := by
    rw [decide_eq_false_iff_not]
    intro e
    apply ht
    have hlt : p.1 < ss.length := (List.getElem?_eq_some_iff.1 hs).1
    have h2 : (ts.take ss.length)[p.1]? = some p.2 := by rw [← e]; exact hs
    rw [List.getElem?_take, if_pos hlt] at h2
    exact h2
  simp [beginsB, hd]

/-- Each of these lies at its place in ts. -/
def AllIn (ts : List ByteArray) (l : List (Nat × ByteArray)) : Prop := ∀ p ∈ l, ts[p.1]? = some p.2
theorem allIn_snoc {ss ts : List ByteArray} {l : List (El ss)} {x : El ss} (h : AllIn ts (vals l)) (hx : ts[x.1.1]? = some x.1.2) : AllIn ts (vals (l ++ [x])) := fun p hp => by
  rw [vals_snoc] at hp
  rcases List.mem_append.1 hp with hp | hp
  · exact h p hp
  · simp at hp; subst hp; exact hx

set_option maxRecDepth 100000 in
set_option maxHeartbeats 2000000 in
theorem Begins_in (A B : Option Addr) (n m ca cb : Nat) (ss ts : List ByteArray) (w : World) (hA : Strs w w.heap.size A n ss) (hB : Strs w w.heap.size B m ts) (hn : n ≤ 1048576) (hm : m ≤ 1048576) :
    CallsIn Fence.wide 4 Try.prog 17 #[.slice A n ca, .slice B m cb] w fun e W' => e = .returned (.bool (beginsB ss ts)) ∧ Below w.heap.size w W' := by
  have HA := Lib.hid hA
  have HB := Lib.hid hB
  clear hA hB
  by_cases hle : n ≤ m
  · refine callsIn_of_wp_marks Try.func17 rfl trivial ?_ rfl
    simp only [Try.ntmps17, List.size_toArray, List.length_cons, List.length_nil, Nat.reduceAdd, Nat.reduceSub, Array.replicate_succ, Array.replicate_zero, List.push_toArray, List.append_toArray, List.nil_append, List.cons_append]
    have hd : decide (m < n) = false := by simp; omega
    gi_wp2_with (refine ⟨trivial, ?_⟩; gi_at_call 32; refine (textsIn_in Fence.wide 3 trivial rfl _ _ _ _).mono ?_; rintro e w' ⟨rfl, rfl⟩)
    have b0 := ((Boxed.new w 25 (.slice B m cb)).alloc (.cells #[.bool false] 4)).alloc (.cells #[.slice A n ca] 25)
    have b1 := (Boxed.new (w.alloc (.cells #[.slice B m cb] 25)) 4 (.bool false)).alloc (.cells #[.slice A n ca] 25)
    have bN := Boxed.new ((w.alloc (.cells #[.slice B m cb] 25)).alloc (.cells #[.bool false] 4)) 25 (.slice A n ca)
    simp only [World.size_alloc] at b1 bN
    have hB0 : Below w.heap.size w (((w.alloc (.cells #[.slice B m cb] 25)).alloc (.cells #[.bool false] 4)).alloc (.cells #[.slice A n ca] 25)) := (((Below.refl _ w).alloc (Nat.le_refl _) _).alloc (by simp) _).alloc (by simp; omega) _
    clear hd
    refine wpIn_rangeFunc_ownG rfl (by decide) (gf := 38) (lb := #[.pointer (some ⟨w.heap.size + 1 + 1, 0, none⟩)]) rfl trivial (enters_of Try.func38 (by kernel_rfl) rfl)
      (texts_stops Fence.wide 3 trivial rfl (by decide) (w.heap.size + 1 + 1) w.heap.size A n ca ss hn _ (by simp) (by simp; omega) bN.cell (HA.out.below hB0)) belowK_t (belowK_b (by simp; omega)) (Below.refl _ _) (fun _ => rfl)
      (fun pre W => (Boxed W w.heap.size 25 (.slice B m cb) ∧ Boxed W (w.heap.size + 1) 4 (.bool false)) ∧ (AllIn ts (vals pre) ∧ Below w.heap.size w W))
      (fun c pre W => Boxed W (w.heap.size + 1) 4 (.bool false) ∧ ((c = .ret ∧ ∃ x : El ss, ts[x.1.1]? ≠ some x.1.2) ∧ Below w.heap.size w W))
      (OwnFrom.and (OwnFrom.and (Own.from (boxed_own _ _ _) _) (Own.from (boxed_own _ _ _) _)) (OwnFrom.and (ownFrom_pure _ _) (ownFrom_below (Nat.le_refl _) (by simp; omega))))
      (fun c => OwnFrom.and (Own.from (boxed_own _ _ _) _) (OwnFrom.and (ownFrom_pure _ _) (ownFrom_below (Nat.le_refl _) (by simp; omega))))
      ⟨⟨b0, b1⟩, by simp [vals, AllIn], hB0⟩
      (fun x => { tmps := #[.slice A n ca, .slice B m cb, undef, .pointer (some ⟨w.heap.size, 0, none⟩), .pointer (some ⟨w.heap.size + 1, 0, none⟩), .int .i64 (x.1.1 : Int), .string x.1.2, .slice A n ca, .int .i64 (n : Int), .slice B m cb, .int .i64 (m : Int), .bool false, .slice A n ca, .func (.func 38) #[] #[.pointer (some ⟨w.heap.size + 1 + 1, 0, none⟩)], .int .i64 (x.1.1 : Int), .string x.1.2, undef, undef, undef, undef, undef, undef], defers := [] }) ?assign ?body ?done ?stop
    case assign =>
      intro l x W K hK
      gi_wp2
      exact hK
    case body =>
      rintro l pre x W ⟨⟨h0, h1⟩, hal, hB⟩ _
      have hxn : x.1.1 < n := by
        have := (List.getElem?_eq_some_iff.1 x.2).1
        rw [HA.out.1] at this
        exact this
      have hxm : x.1.1 < m := by omega
      obtain ⟨b, off, hBe, hb, hc⟩ := HB.out.2 (by omega)
      have hck := (hB.cell (p := ⟨b, off + x.1.1, none⟩) hb).trans (hc x.1.1 hxm)
      have hget : ts[x.1.1]? = some (ts[x.1.1]?.getD ByteArray.empty) := by rw [List.getElem?_eq_getElem (by rw [HB.out.1]; exact hxm)]; rfl
      obtain ⟨t, ht⟩ : ∃ t, t = ts[x.1.1]?.getD ByteArray.empty := ⟨_, rfl⟩
      rw [← ht] at hck hget
      rw [hBe] at h0
      have hc0 := h0.cell
      have hc1 := h1.cell
      have hf1 := h1.frozen
      have B1 := Lib.hid h1
      have B0 := Lib.hid h0
      have HAL := Lib.hid hal
      have HG := Lib.hid hget
      have HBE := Lib.hid hBe
      clear hc ht hget h0 h1 hal hBe
      by_cases hst : t = x.1.2
      · have HST := Lib.hid hst
        subst hst
        gi_wp2
        exact ⟨KeepsFrom.refl _ _, Below.refl _ _, ⟨by rw [HBE.out]; exact B0.out, B1.out⟩, allIn_snoc HAL.out HG.out, hB⟩
      · have hne := str_ne hst
        have HX : Hid (ts[x.1.1]? ≠ some x.1.2) := by
          show _ ≠ _
          rw [HG.out]
          intro e
          injection e with e
          exact hst e
        clear hst
        gi_wp2
        exact ⟨(KeepsOthers.setCell _ _ _).from _, B1.out.set _, ⟨rfl, x, HX.out⟩, hB.setCell (p := ⟨w.heap.size + 1, 0, none⟩) (by simp) _⟩
    case done =>
      rintro D ys W hD hys ⟨⟨_, h1⟩, hal, hB⟩ hK
      have HR : Hid (beginsB ss ts = true) := begins_yes (by rw [HA.out.1, HB.out.1]; exact hle) (by rw [HA.out.1, ← hys]; exact hal)
      have hcr := h1.cell
      have hfr := h1.frozen
      clear hys hal
      gi_wp2
      have hK' := (KeepsOthers.setCell W ⟨w.heap.size + 1, 0, none⟩ (.bool true)).same D _ hK rfl
      refine ⟨by simp, .inl ⟨_, _, rfl, run_takeDeferred hK', ?_⟩⟩
      have hc5 := cell_kept (World.cell?_setCell_same' W ⟨w.heap.size + 1, 0, none⟩ (.bool true) (by rw [hcr]; rfl)) (grownBy_putObj' _ D (.deferred none)) (fun r e => by cases e; exact ⟨_, hK', rfl⟩)
      refine ⟨.bool true, ?_, by rw [HR.out], (hB.setCell (p := ⟨w.heap.size + 1, 0, none⟩) (by simp) _).trans (belowK_b (w := w) (Nat.le_refl _) _ D _ _ (by simp at hD; omega) hK' rfl rfl)⟩
      simp [results, Try.f17, go_sem, hc5]
    case stop =>
      rintro D c pre W hD hpre ⟨h1, ⟨rfl, x, hx⟩, hB⟩ hK
      have HR : Hid (beginsB ss ts = false) := begins_no x.1 x.2 hx
      clear hx hpre
      gi_wp2
      refine ⟨by simp, .inl ⟨_, _, rfl, run_takeDeferred hK, ?_⟩⟩
      have hc5 := cell_kept h1.cell (grownBy_putObj' _ D (.deferred none)) (fun r e => by cases e; exact ⟨_, hK, rfl⟩)
      refine ⟨.bool false, ?_, by rw [HR.out], hB.trans (belowK_b (w := w) (Nat.le_refl _) W D _ _ (by simp at hD; omega) hK rfl rfl)⟩
      simp [results, Try.f17, go_sem, hc5]
  · have HR : Hid (beginsB ss ts = false) := begins_long (by rw [HA.out.1, HB.out.1]; omega)
    have hd : decide (m < n) = true := by simp; omega
    refine callsIn_of_wp_marks Try.func17 rfl trivial ?_ rfl
    simp only [Try.ntmps17, List.size_toArray, List.length_cons, List.length_nil, Nat.reduceAdd, Nat.reduceSub, Array.replicate_succ, Array.replicate_zero, List.push_toArray, List.append_toArray, List.nil_append, List.cons_append]
    gi_wp2
    exact ⟨.bool false, by simp [results, Try.f17, go_sem], by rw [HR.out], ((Below.refl _ _).alloc (Nat.le_refl _) _).alloc (by simp) _⟩

theorem Begins_any (A B : Option Addr) (n m ca cb : Nat) (ss ts : List ByteArray) (w : World) (hA : Strs w w.heap.size A n ss) (hB : Strs w w.heap.size B m ts) (hn : n ≤ 1048576) (hm : m ≤ 1048576) :
    Calls Try.prog 17 #[.slice A n ca, .slice B m cb] w fun e W' => e = .returned (.bool (beginsB ss ts)) ∧ Below w.heap.size w W' :=
  (callsIn_wide (n := 4)).1 (Begins_in A B n m ca cb ss ts w hA hB hn hm)

end Go.Proofs.Ytjgkhjdndeiidaa.Tx

/-
  What Upto of the program and of the model answer: how many of the first strings have at most that many bytes together. Conditions: the list has at most 1048576 strings, and as many bytes together.
-/
import Derived.Test.YtjgkhjdndeiidaaSeqs
namespace Go.Proofs.Ytjgkhjdndeiidaa.Tx
open Go.RowKit Go.Shelf

attribute [local go_sem] Oper.semAt_some

/-- How many of the first ones go in. -/
def uptoL : List ByteArray → Int → Nat
  | [], _ => 0
  | s :: r, m => if (s.size : Int) ≤ m then uptoL r (m - s.size) + 1 else 0
theorem uptoL_drop (ss : List ByteArray) (k : Nat) (m : Int) (h : k < ss.length) :
    uptoL (ss.drop k) m = if ((ss[k]?.getD ByteArray.empty).size : Int) ≤ m then uptoL (ss.drop (k + 1)) (m - (ss[k]?.getD ByteArray.empty).size) + 1 else 0 := by
  rw [List.drop_eq_getElem_cons h, List.getElem?_eq_getElem h]
  rfl

theorem uptoL_le (ss : List ByteArray) : ∀ m, uptoL ss m ≤ ss.length := by
  induction ss with
  | nil => intro m; simp [uptoL]
  | cons s r ih =>
    intro m
    have := ih (m - s.size)
    rw [uptoL]
    split
    · simp; omega
    · simp
theorem sumB_cons (s : ByteArray) (r : List ByteArray) : sumB (s :: r) = s.size + sumB r := by simp [sumB]
theorem uptoL_sum (ss : List ByteArray) : ∀ m, 0 < uptoL ss m → (sumB (ss.take (uptoL ss m)) : Int) ≤ m := by
  induction ss with
  | nil => intro m h; simp [uptoL] at h
  | cons s r ih =>
    intro m h
    by_cases hs : (s.size : Int) ≤ m
    · have e : uptoL (s :: r) m = uptoL r (m - s.size) + 1 := by rw [uptoL, if_pos hs]
      rw [e, List.take_succ_cons, sumB_cons]
      by_cases h0 : 0 < uptoL r (m - s.size)
      · have := ih _ h0; omega
      · have e0 : uptoL r (m - s.size) = 0 := by omega
        rw [e0]
        simp [sumB]
        omega
    · rw [uptoL, if_neg hs] at h
      omega
theorem uptoL_more (ss : List ByteArray) : ∀ m, uptoL ss m < ss.length → m < (sumB (ss.take (uptoL ss m + 1)) : Int) := by
  induction ss with
  | nil => intro m h; simp [uptoL] at h
  | cons s r ih =>
    intro m h
    by_cases hs : (s.size : Int) ≤ m
    · have e : uptoL (s :: r) m = uptoL r (m - s.size) + 1 := by rw [uptoL, if_pos hs]
      rw [e] at h ⊢
      rw [List.take_succ_cons, sumB_cons]
      have := ih (m - s.size) (by simp at h; omega)
      omega
    · have e : uptoL (s :: r) m = 0 := by rw [uptoL, if_neg hs]
      rw [e, Nat.zero_add, List.take_succ_cons, sumB_cons]
      omega

theorem ret_nat {a : Nat} {v : Value} {b : Nat} (h : v = .int .i64 (a : Int)) (e : a = b) : Ending.returned v = .returned (.int .i64 (b : Int)) := by rw [h, e]

set_option maxHeartbeats 1000000 in
theorem Upto_spec (A : Option Addr) (len cap : Nat) (ss : List ByteArray) (most : Int) (hlen : len ≤ 1048576) (hcap : len ≤ cap) (hcm : cap ≤ maxLen) (hsum : sumB ss ≤ 1048576) (w : World) (hS : Strs w w.heap.size A len ss) :
    Calls Try.prog 19 #[.slice A len cap, .int .i64 most] w fun e w' => e = .returned (.int .i64 (uptoL ss most : Int)) ∧ w = w' := by
  unfold maxLen at hcm
  have HS := Lib.hid hS
  clear hS
  go_enter Try.func19, Try.ntmps19
  go_wp2
  go_loop [5] (fun i => ∃ k : Nat, k ≤ len ∧ i = .int .i64 k ∧ uptoL ss most = k + uptoL (ss.drop k) (most - sumB (ss.take k))) (fun i => len - (intOf i).toNat)
  case atStart => exact ⟨0, Nat.zero_le _, rfl, by simp [sumB]⟩
  case round =>
    obtain ⟨k, hk, rfl, hu⟩ := hrel
    have HU := Lib.hid hu
    clear hu
    by_cases hlt : k < len
    · have hkl : k < ss.length := by rw [HS.out.1]; exact hlt
      have hd := uptoL_drop ss k (most - sumB (ss.take k)) hkl
      have hst := sumB_take_succ ss k hkl
      have hle1 := sumB_take_le ss (k + 1)
      have hS1 : Strs w w.heap.size A (k + 1) (ss.take (k + 1)) := by
        refine ⟨by simp; omega, fun _ => ?_⟩
        obtain ⟨b, off, e, hb, hc⟩ := HS.out.2 (by omega)
        exact ⟨b, off, e, hb, fun j hj => by rw [hc j (by omega)]; simp [hj]⟩
      have H1 := Lib.hid hS1
      have hsm : sumB (ss.take (k + 1)) ≤ 1048576 := by omega
      by_cases hfit : (sumB (ss.take (k + 1)) : Int) ≤ most
      · have HN : Hid (uptoL ss most = (k + 1 : Nat) + uptoL (ss.drop (k + 1)) (most - sumB (ss.take (k + 1)))) := by
          show _ = _
          rw [HU.out, hd, if_pos (by omega), hst]
          have e : most - (sumB (ss.take k) : Int) - ((ss[k]?.getD ByteArray.empty).size : Int) = most - ((sumB (ss.take k) + (ss[k]?.getD ByteArray.empty).size : Nat) : Int) := by omega
          rw [e]; omega
        clear hd hst hS1 hle1 hkl
        go_wp2_with (go_at_call 20; refine (BytesOf_spec _ _ _ (ss.take (k + 1)) (by omega) hsm _ (by exact H1.out)).mono ?_; rintro e w' ⟨rfl, rfl⟩)
        go_round
        case rel => exact ⟨k + 1, by omega, by go_num, HN.out⟩
        case measure => simp [intOf]; omega
      · have HN : Hid (uptoL ss most = k) := by
          show _ = _
          rw [HU.out, hd, if_neg (by omega)]; rfl
        clear hd hst hS1 hle1 hkl
        go_wp2_with (go_at_call 20; refine (BytesOf_spec _ _ _ (ss.take (k + 1)) (by omega) hsm _ (by exact H1.out)).mono ?_; rintro e w' ⟨rfl, rfl⟩)
        go_ret
        exact ⟨ret_nat rfl HN.out.symm, rfl⟩
    · have HN : Hid (uptoL ss most = k) := by
        show _ = _
        rw [HU.out, List.drop_of_length_le (by rw [HS.out.1]; omega)]; rfl
      go_wp2
      go_ret
      exact ⟨ret_nat rfl HN.out.symm, rfl⟩

/-- What has come so far went in, whatever comes behind it. -/
def Fits (l : List ByteArray) (most : Int) : Prop := ∀ rest, uptoL (l ++ rest) most = l.length + uptoL rest (most - sumB l)
theorem fits_nil (most : Int) : Fits [] most := fun rest => by simp [sumB]
theorem fits_snoc {l : List ByteArray} {most : Int} {x : ByteArray} (h : Fits l most) (hx : (x.size : Int) ≤ most - sumB l) : Fits (l ++ [x]) most := fun rest => by
  rw [List.append_assoc, h, List.singleton_append, uptoL, if_pos hx, sumB_snoc, List.length_append]
  have e : most - (sumB l : Int) - (x.size : Int) = most - ((sumB l + x.size : Nat) : Int) := by omega
  rw [e]; simp; omega
theorem fits_stop {l : List ByteArray} {most : Int} {x : ByteArray} (h : Fits l most) (hx : ¬ (x.size : Int) ≤ most - sumB l) (rest : List ByteArray) : uptoL (l ++ x :: rest) most = l.length := by
  rw [h, uptoL, if_neg hx]; rfl
theorem upto_done {ss l : List ByteArray} {most : Int} {n : Nat} (h1 : l = ss) (hF : Fits l most) (hn : l.length = n) : uptoL ss most = n := by
  subst h1
  have h2 := hF []
  rw [List.append_nil] at h2
  rw [h2, hn]; rfl
theorem upto_stop {ss l : List ByteArray} {x : ByteArray} {most : Int} {k n : Nat} (h1 : l ++ [x] = ss.take k) (hF : Fits l most) (hX : ¬ (x.size : Int) ≤ most - sumB l) (hn : l.length = n) : uptoL ss most = n := by
  have h2 : ss = l ++ x :: ss.drop k := by
    have h := List.take_append_drop k ss
    rw [← h1] at h
    rw [List.append_assoc] at h
    exact h.symm
  rw [h2, fits_stop hF hX, hn]
theorem snds_snoc {ss : List ByteArray} (pre : List (El ss)) (x : El ss) : (vals (pre ++ [x])).map (·.2) = (vals pre).map (·.2) ++ [x.1.2] := by rw [vals_snoc, List.map_append]; rfl

set_option maxRecDepth 100000 in
set_option maxHeartbeats 2000000 in
theorem Upto_in (A : Option Addr) (len cap : Nat) (ss : List ByteArray) (most : Int) (hm0 : -9223372036854775808 ≤ most) (hm1 : most ≤ 9223372036854775807) (hlen : len ≤ 1048576) (w : World) (hS : Strs w w.heap.size A len ss) :
    CallsIn Fence.wide 4 Try.prog 13 #[.slice A len cap, .int .i64 most] w fun e W' => e = .returned (.int .i64 (uptoL ss most : Int)) ∧ Below w.heap.size w W' := by
  refine callsIn_of_wp_marks Try.func13 rfl trivial ?_ rfl
  simp only [Try.ntmps13, List.size_toArray, List.length_cons, List.length_nil, Nat.reduceAdd, Nat.reduceSub, Array.replicate_succ, Array.replicate_zero, List.push_toArray, List.append_toArray, List.nil_append, List.cons_append]
  gi_wp2_with (refine ⟨trivial, ?_⟩; gi_at_call 32; refine (textsIn_in Fence.wide 3 trivial rfl _ _ _ _).mono ?_; rintro e w' ⟨rfl, rfl⟩)
  have bC := ((Boxed.new w 2 (.int .i64 0)).alloc (.cells #[.int .i64 most] 2)).alloc (.cells #[.slice A len cap] 25)
  have bL := (Boxed.new (w.alloc (.cells #[.int .i64 0] 2)) 2 (.int .i64 most)).alloc (.cells #[.slice A len cap] 25)
  have bN := Boxed.new ((w.alloc (.cells #[.int .i64 0] 2)).alloc (.cells #[.int .i64 most] 2)) 25 (.slice A len cap)
  simp only [World.size_alloc] at bL bN
  have hB0 : Below w.heap.size w (((w.alloc (.cells #[.int .i64 0] 2)).alloc (.cells #[.int .i64 most] 2)).alloc (.cells #[.slice A len cap] 25)) := (((Below.refl _ w).alloc (Nat.le_refl _) _).alloc (by simp) _).alloc (by simp; omega) _
  refine wpIn_rangeFunc_ownG rfl (by decide) (gf := 38) (lb := #[.pointer (some ⟨w.heap.size + 1 + 1, 0, none⟩)]) rfl trivial (enters_of Try.func38 (by kernel_rfl) rfl)
    (texts_stops Fence.wide 3 trivial rfl (by decide) (w.heap.size + 1 + 1) w.heap.size A len cap ss hlen _ (by simp) (by simp; omega) bN.cell (hS.below hB0)) belowK_t (belowK_b (by simp; omega)) (Below.refl _ _) (fun _ => rfl)
    (fun pre W => (Boxed W w.heap.size 2 (.int .i64 (pre.length : Int)) ∧ Boxed W (w.heap.size + 1) 2 (.int .i64 (most - sumB ((vals pre).map (·.2))))) ∧ (Fits ((vals pre).map (·.2)) most ∧ Below w.heap.size w W))
    (fun c pre W => Boxed W w.heap.size 2 (.int .i64 ((pre.length : Int) - 1)) ∧ ((c = .exit 0 ∧ ∃ ini last, pre = ini ++ [last] ∧ Fits ((vals ini).map (·.2)) most ∧ ¬ (last.1.2.size : Int) ≤ most - sumB ((vals ini).map (·.2))) ∧ Below w.heap.size w W))
    (OwnFrom.and (OwnFrom.and (Own.from (boxed_own _ _ _) _) (Own.from (boxed_own _ _ _) _)) (OwnFrom.and (ownFrom_pure _ _) (ownFrom_below (Nat.le_refl _) (by simp; omega))))
    (fun c => OwnFrom.and (Own.from (boxed_own _ _ _) _) (OwnFrom.and (ownFrom_pure _ _) (ownFrom_below (Nat.le_refl _) (by simp; omega))))
    ⟨⟨bC, by simpa [vals, sumB] using bL⟩, fits_nil most, hB0⟩
    (fun x => { tmps := #[.slice A len cap, .int .i64 most, undef, undef, .int .i64 0, .pointer (some ⟨w.heap.size, 0, none⟩), .pointer (some ⟨w.heap.size + 1, 0, none⟩), undef, .string x.1.2, undef, .int .i64 most, .slice A len cap, .func (.func 38) #[] #[.pointer (some ⟨w.heap.size + 1 + 1, 0, none⟩)], .int .i64 (x.1.1 : Int), .string x.1.2, undef, undef, undef, undef, undef, undef, undef, undef, undef, undef, undef], defers := [] }) ?assign ?body ?done ?stop
  case assign =>
    intro l x W K hK
    gi_wp2
    exact hK
  case body =>
    rintro l pre x W ⟨⟨hC, hL⟩, hF, hB⟩ hlt
    obtain ⟨L, hLe⟩ : ∃ L : Int, L = most - sumB ((vals pre).map (·.2)) := ⟨_, rfl⟩
    rw [← hLe] at hL
    have hL1 : L ≤ 9223372036854775807 := by omega
    have hcC := hC.cell
    have hfC := hC.frozen
    have hcL := hL.cell
    have hfL := hL.frozen
    have BC := Lib.hid hC
    have BL := Lib.hid hL
    have HF := Lib.hid hF
    by_cases hfit : (x.1.2.size : Int) ≤ L
    · have HE : Hid (most - sumB ((vals (pre ++ [x])).map (·.2)) = L - x.1.2.size) := by
        show _ = _
        rw [snds_snoc, sumB_snoc, hLe]; omega
      have HF' : Hid (Fits ((vals (pre ++ [x])).map (·.2)) most) := by
        show Fits _ _
        rw [snds_snoc]
        exact fits_snoc HF.out (by omega)
      clear hC hL hF hLe
      gi_wp2
      refine ⟨((KeepsOthers.setCell _ _ _).trans (KeepsOthers.setCell _ _ _)).from _, ((Below.refl w.heap.size W).setCell (p := ⟨w.heap.size + 1, 0, none⟩) (by simp) _).setCell (p := ⟨w.heap.size, 0, none⟩) (Nat.le_refl _) _, ⟨?_, ?_⟩, HF'.out, (hB.setCell (p := ⟨w.heap.size + 1, 0, none⟩) (by simp) _).setCell (p := ⟨w.heap.size, 0, none⟩) (Nat.le_refl _) _⟩
      · have := (BC.out.other (B' := w.heap.size + 1) (by omega) (.int .i64 (L - x.1.2.size))).set (.int .i64 ((pre.length : Int) + 1))
        simpa using this
      · rw [HE.out]
        exact (BL.out.set (.int .i64 (L - x.1.2.size))).other (by omega) _
    · have hfit' : L < (x.1.2.size : Int) := by omega
      have HX : Hid (¬ (x.1.2.size : Int) ≤ most - sumB ((vals pre).map (·.2))) := by
        show ¬ _
        rw [← hLe]; exact hfit
      clear hC hL hF hLe
      gi_wp2
      exact ⟨KeepsFrom.refl _ _, by simpa using BC.out, ⟨rfl, pre, x, rfl, HF.out, HX.out⟩, hB⟩
  case done =>
    rintro D ys W hD hys ⟨⟨hC, _⟩, hF, hB⟩ hK
    have HL := Lib.hid hS.1
    have HE : Hid (uptoL ss most = ys.length) := by
      show _ = _
      have h1 : (vals ys).map (·.2) = ss := by rw [hys, pairs_snd ss len (by rw [HL.out]; exact Nat.le_refl _), List.take_of_length_le (by rw [HL.out]; exact Nat.le_refl _)]
      exact upto_done h1 hF (by rw [List.length_map, vals_length])
    have hc := hC.cell
    clear hys
    gi_wp2
    refine ⟨by simp, .inl ⟨_, _, rfl, run_takeDeferred hK, ?_⟩⟩
    exact ⟨_, results_tmp rfl _ _ _, ret_nat rfl HE.out.symm, hB.trans (belowK_b (w := w) (Nat.le_refl _) W D _ _ (by simp at hD; omega) hK rfl rfl)⟩
  case stop =>
    rintro D c pre W hD ⟨k, hk, hpre⟩ ⟨hC, ⟨rfl, ini, last, rfl, hF, hX⟩, hB⟩ hK
    have HL := Lib.hid hS.1
    have HE : Hid (uptoL ss most = ini.length) := by
      show _ = _
      have h1 : (vals ini).map (·.2) ++ [last.1.2] = ss.take k := by rw [← snds_snoc, hpre, pairs_snd ss k (by rw [HL.out]; exact hk)]
      exact upto_stop h1 hF hX (by rw [List.length_map, vals_length])
    have hc : W.cell? ⟨w.heap.size, 0, none⟩ = some (.int .i64 (ini.length : Int)) := by
      have := hC.cell
      simpa using this
    clear hpre
    gi_wp2
    refine ⟨by simp, .inl ⟨_, _, rfl, run_takeDeferred hK, ?_⟩⟩
    exact ⟨_, results_tmp rfl _ _ _, ret_nat rfl HE.out.symm, hB.trans (belowK_b (w := w) (Nat.le_refl _) W D _ _ (by simp at hD; omega) hK rfl rfl)⟩

theorem Upto_any (A : Option Addr) (len cap : Nat) (ss : List ByteArray) (most : Int) (hm0 : -9223372036854775808 ≤ most) (hm1 : most ≤ 9223372036854775807) (hlen : len ≤ 1048576) (w : World) (hS : Strs w w.heap.size A len ss) :
    Calls Try.prog 13 #[.slice A len cap, .int .i64 most] w fun e W' => e = .returned (.int .i64 (uptoL ss most : Int)) ∧ Below w.heap.size w W' :=
  (callsIn_wide (n := 4)).1 (Upto_in A len cap ss most hm0 hm1 hlen w hS)

end Go.Proofs.Ytjgkhjdndeiidaa.Tx

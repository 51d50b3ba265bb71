/-
  What textsIn of the program hands out: each string of the list with its place, in order; and what BytesOf, Upto and Begins of the program and of the model answer. Conditions: the lists have at most 1048576 strings, and as many bytes together.
-/
import Derived.RangeFuncNested
import Derived.RangeFuncBound
import Derived.RangeFuncCalls
import Derived.RangeFuncLeaves
import Derived.Shelf.Abstract
import Derived.Shelf.RegionOpen
import Derived.WalkKit
import Derived.OwnWalkIn
import Derived.TacticsInMore
import Derived.LoopNIn
import Derived.LoopIn
import Derived.Lib.Hide
import Derived.Test.YtjgkhjdndeiidaaLists
namespace Go.Proofs.Ytjgkhjdndeiidaa.Tx
open Go.RowKit Go.Shelf

attribute [local go_sem] Oper.semAt_some

/-- A place of the list and the string there. -/
def El (ss : List ByteArray) : Type := { p : Nat × ByteArray // ss[p.1]? = some p.2 }
def pairs (ss : List ByteArray) (k : Nat) : List (Nat × ByteArray) := (List.range k).map fun j => (j, ss[j]?.getD ByteArray.empty)
theorem pairs_succ (ss : List ByteArray) (k : Nat) : pairs ss (k + 1) = pairs ss k ++ [(k, ss[k]?.getD ByteArray.empty)] := by simp [pairs, List.range_succ]
theorem pairs_length (ss : List ByteArray) (k : Nat) : (pairs ss k).length = k := by simp [pairs]
theorem pairs_snd (ss : List ByteArray) (k : Nat) (h : k ≤ ss.length) : (pairs ss k).map (·.2) = ss.take k := by
  induction k with
  | zero => simp [pairs]
  | succ k ih => rw [pairs_succ, List.map_append, ih (by omega), take_snocL ss k (by omega)]; rfl
def vals {ss : List ByteArray} (l : List (El ss)) : List (Nat × ByteArray) := l.map (·.1)
theorem vals_snoc {ss : List ByteArray} (l : List (El ss)) (x : El ss) : vals (l ++ [x]) = vals l ++ [x.1] := by simp [vals]
theorem vals_length {ss : List ByteArray} (l : List (El ss)) : (vals l).length = l.length := by simp [vals]

set_option maxRecDepth 100000 in
set_option maxHeartbeats 1000000 in
theorem texts1_in (F : Fence) (n : Nat) (h38 : F.fn 38) (hro : F.round = none) (hn : 1 ≤ n) (l Bs n₀ : Nat) (A : Option Addr) (len cap : Nat) (ss : List ByteArray) (hlen : len ≤ 1048576) (J Jx : List (El ss) → World → Prop)
    (hY : ∀ pre (x : El ss) W, J pre W → pre.length < len → YieldAt F (n - 1) Try.prog l #[.int .i64 (x.1.1 : Int), .string x.1.2] W fun e W' =>
      (e = .returned (.bool true) ∧ J (pre ++ [x]) W' ∧ Below n₀ W W') ∨ (e = .returned (.bool false) ∧ Jx (pre ++ [x]) W'))
    (W : World) (hBs : W.cell? ⟨Bs, 0, none⟩ = some (.slice A len cap)) (hS : Strs W n₀ A len ss) (h0 : J [] W) :
    CallsIn F n Try.prog 38 #[.func (.yield l) #[] #[], .pointer (some ⟨Bs, 0, none⟩)] W fun e W' => (∃ v, e = .returned v) ∧
      ((∃ ys, vals ys = pairs ss len ∧ J ys W') ∨ (∃ pre, (∃ k, k ≤ len ∧ vals pre = pairs ss k) ∧ Jx pre W')) := by
  have HS := Lib.hid hS
  clear hS
  refine callsIn_of_wp Try.func38 rfl h38 ?_ hro
  simp only [Try.ntmps38, List.size_toArray, List.length_cons, List.length_nil, Nat.reduceAdd, Nat.reduceSub, Array.replicate_succ, Array.replicate_zero, List.push_toArray, List.append_toArray, List.nil_append, List.cons_append]
  gi_wp2
  gi_loopw [7] (fun i wr => ∃ (k : Nat) (pre : List (El ss)), k ≤ len ∧ i = .int .i64 k ∧ vals pre = pairs ss k ∧ J pre wr ∧ Below n₀ W wr)
    (fun i _ => len - (intOf i).toNat)
  case atStart => exact ⟨0, [], Nat.zero_le _, rfl, rfl, h0, Below.refl _ _⟩
  case round =>
    obtain ⟨k, pre, hk, rfl, hpre, hJs, hnx⟩ := hrel
    have HP := Lib.hid hpre
    clear hpre
    by_cases hlt : k < len
    · obtain ⟨b, off, rfl, hb, hc⟩ := HS.out.2 (by omega)
      have hck := (hnx.cell (p := ⟨b, off + k, none⟩) hb).trans (hc k hlt)
      have hkl : k < ss.length := by rw [HS.out.1]; exact hlt
      have hx : ss[k]? = some (ss[k]?.getD ByteArray.empty) := by rw [List.getElem?_eq_getElem hkl]; rfl
      have hpl : pre.length = k := by rw [← vals_length, HP.out, pairs_length]
      obtain ⟨s, hs⟩ : ∃ s, s = ss[k]?.getD ByteArray.empty := ⟨_, rfl⟩
      rw [← hs] at hck hx
      obtain ⟨x, hxv⟩ : ∃ x : El ss, x.1 = (k, s) := ⟨⟨_, hx⟩, rfl⟩
      obtain ⟨fn, tmps, assign, body, hy, hR⟩ := hY pre x wr hJs (by rw [hpl]; exact hlt)
      rw [hxv] at hy
      have HX : Hid (x.1 = (k, ss[k]?.getD ByteArray.empty)) := by show _ = _; rw [hxv, hs]
      clear hx hpl hc hxv hs hkl
      dsimp only at hy
      gi_wp2
      refine hR.mono ?_
      rintro e W3 (⟨rfl, hJ3, hk3⟩ | ⟨rfl, hJx3⟩)
      · gi_wp2
        go_roundw
        case rel => exact ⟨k + 1, _, by omega, by simp, by rw [vals_snoc, HP.out, HX.out, pairs_succ], hJ3, hnx.trans hk3⟩
        case measure => simp [intOf]; omega
      · gi_wp2
        refine bodyPost_ret (results_none rfl _ _ _) rfl ?_
        exact ⟨⟨_, rfl⟩, .inr ⟨_, ⟨k + 1, by omega, by rw [vals_snoc, HP.out, HX.out, pairs_succ]⟩, hJx3⟩⟩
    · obtain rfl : k = len := by omega
      gi_wp2
      go_end0
      exact ⟨⟨_, rfl⟩, .inl ⟨_, HP.out, hJs⟩⟩

theorem texts_stops (F : Fence) (n : Nat) (h38 : F.fn 38) (hro : F.round = none) (hn : 1 ≤ n) (Bs n₀ : Nat) (A : Option Addr) (len cap : Nat) (ss : List ByteArray) (hlen : len ≤ 1048576) (w : World) (hBs : Bs < w.heap.size) (hn₀ : n₀ ≤ w.heap.size)
    (hc : w.cell? ⟨Bs, 0, none⟩ = some (.slice A len cap)) (hS : Strs w n₀ A len ss) :
    SeqStopsK F n Try.prog 38 #[.pointer (some ⟨Bs, 0, none⟩)] (fun x : El ss => #[Value.int .i64 (x.1.1 : Int), .string x.1.2]) (Below n₀) (fun ys => vals ys = pairs ss len) (fun pre => ∃ k, k ≤ len ∧ vals pre = pairs ss k) len w := fun l J Jx W hW _ _ hY h0 =>
  texts1_in F n h38 hro hn l Bs n₀ A len cap ss hlen J Jx hY W ((hW.cell (p := ⟨Bs, 0, none⟩) hBs).trans hc) (hS.below (hW.mono hn₀)) h0

theorem textsIn_in (F : Fence) (n : Nat) (h32 : F.fn 32) (hro : F.round = none) (A : Option Addr) (len cap : Nat) (w : World) :
    CallsIn F n Try.prog 32 #[.slice A len cap] w fun e w' => e = .returned (.func (.func 38) #[] #[.pointer (some ⟨w.heap.size, 0, none⟩)]) ∧ w' = w.alloc (.cells #[.slice A len cap] 25) := by
  refine callsIn_of_wp Try.func32 rfl h32 ?_ hro
  simp only [Try.ntmps32, List.size_toArray, List.length_cons, List.length_nil, Nat.reduceAdd, Nat.reduceSub, Array.replicate_succ, Array.replicate_zero, List.push_toArray, List.append_toArray, List.nil_append, List.cons_append]
  gi_wp2
  go_ret
  exact ⟨rfl, rfl⟩

theorem wrap_add (a b : Int) : wrap64 (wrap64 a + b) = wrap64 (a + b) := by unfold wrap64; omega
theorem wrap_nil {ss : List ByteArray} : wrap64 ((sumB ((vals ([] : List (El ss))).map (·.2)) : Nat) : Int) = 0 := by simp [vals, sumB, wrap64]
theorem wrap_small (a : Int) (h0 : 0 ≤ a) (h1 : a ≤ 1048576) : wrap64 a = a := by unfold wrap64; omega

set_option maxRecDepth 100000 in
set_option maxHeartbeats 2000000 in
theorem BytesOf_in (A : Option Addr) (len cap : Nat) (ss : List ByteArray) (hlen : len ≤ 1048576) (hsum : sumB ss ≤ 1048576) (w : World) (hS : Strs w w.heap.size A len ss) :
    CallsIn Fence.wide 4 Try.prog 14 #[.slice A len cap] w fun e W' => e = .returned (.int .i64 (sumB ss : Int)) ∧ Below w.heap.size w W' := by
  refine callsIn_of_wp_marks Try.func14 rfl trivial ?_ rfl
  simp only [Try.ntmps14, List.size_toArray, List.length_cons, List.length_nil, Nat.reduceAdd, Nat.reduceSub, Array.replicate_succ, Array.replicate_zero, List.push_toArray, List.append_toArray, List.nil_append, List.cons_append]
  gi_wp2_with (refine ⟨trivial, ?_⟩; gi_at_call 32; refine (textsIn_in Fence.wide 3 trivial rfl _ _ _ _).mono ?_; rintro e w' ⟨rfl, rfl⟩)
  have bS := Boxed.new w 2 (.int .i64 0)
  have bN := Boxed.new (w.alloc (.cells #[.int .i64 0] 2)) 25 (.slice A len cap)
  rw [World.size_alloc] at bN
  have hB0 : Below w.heap.size w ((w.alloc (.cells #[.int .i64 0] 2)).alloc (.cells #[.slice A len cap] 25)) := ((Below.refl _ w).alloc (Nat.le_refl _) _).alloc (by simp) _
  refine wpIn_rangeFunc_ownG rfl (by decide) (gf := 38) (lb := #[.pointer (some ⟨w.heap.size + 1, 0, none⟩)]) rfl trivial (enters_of Try.func38 (by kernel_rfl) rfl)
    (texts_stops Fence.wide 3 trivial rfl (by decide) (w.heap.size + 1) w.heap.size A len cap ss hlen _ (by simp) (by simp; omega) bN.cell (hS.below hB0)) belowK_t (belowK_b (by simp; omega)) (Below.refl _ _) (fun _ => rfl)
    (fun pre W => (W.cell? ⟨w.heap.size, 0, none⟩ = some (.int .i64 (wrap64 (sumB ((vals pre).map (·.2)) : Int))) ∧ W.frozen? ⟨w.heap.size, 0, none⟩ = false) ∧ Below w.heap.size w W)
    (fun _ _ _ => False)
    (OwnFrom.and (Own.from (fun s A B row hs hg hr => ⟨cell_kept hs.1 hg hr, (frozen_kept hs.1 hg hr).trans hs.2⟩) _) (ownFrom_below (Nat.le_refl _) (by simp; omega)))
    (fun _ _ _ _ _ hs _ _ => hs)
    ⟨⟨by rw [wrap_nil]; exact (bS.alloc _).cell, (bS.alloc _).frozen⟩, hB0⟩
    (fun x => { tmps := #[.slice A len cap, undef, .int .i64 0, .pointer (some ⟨w.heap.size, 0, none⟩), undef, .string x.1.2, .slice A len cap, .func (.func 38) #[] #[.pointer (some ⟨w.heap.size + 1, 0, none⟩)], .int .i64 (x.1.1 : Int), .string x.1.2, undef, undef, undef, undef, undef], defers := [] }) ?assign ?body ?done ?stop
  case assign =>
    intro l x W K hK
    gi_wp2
    exact hK
  case body =>
    rintro l pre x W ⟨⟨hc, hf⟩, hB⟩ _
    have HE : Hid (wrap64 (wrap64 (sumB ((vals pre).map (·.2)) : Int) + (x.1.2.size : Int)) = wrap64 (sumB ((vals (pre ++ [x])).map (·.2)) : Int)) := by
      show _ = _
      rw [wrap_add, vals_snoc, List.map_append, sumB_append]
      simp [sumB]
    gi_wp2
    exact ⟨(KeepsOthers.setCell _ _ _).from _, (Below.refl w.heap.size W).setCell (p := ⟨w.heap.size, 0, none⟩) (Nat.le_refl _) _, ⟨by rw [← HE.out]; exact World.cell?_setCell_same' _ _ _ (by rw [hc]; rfl), by rw [World.frozen?_setCell]; exact hf⟩, hB.setCell (p := ⟨w.heap.size, 0, none⟩) (Nat.le_refl _) _⟩
  case done =>
    rintro D ys W hD hys ⟨⟨hc, _⟩, hB⟩ hK
    have HL := Lib.hid hS.1
    rw [hys, pairs_snd ss len (by rw [HL.out]; exact Nat.le_refl _), List.take_of_length_le (by rw [HL.out]; exact Nat.le_refl _), wrap_small _ (by omega) (by omega)] at hc
    gi_wp2
    refine ⟨by simp, .inl ⟨_, _, rfl, run_takeDeferred hK, ?_⟩⟩
    exact ⟨_, results_tmp rfl _ _ _, rfl, hB.trans (belowK_b (w := w) (Nat.le_refl _) W D _ _ (by simp at hD; omega) hK rfl rfl)⟩
  case stop =>
    rintro D c pre W _ _ h _
    exact h.elim

theorem BytesOf_any (A : Option Addr) (len cap : Nat) (ss : List ByteArray) (hlen : len ≤ 1048576) (hsum : sumB ss ≤ 1048576) (w : World) (hS : Strs w w.heap.size A len ss) :
    Calls Try.prog 14 #[.slice A len cap] w fun e W' => e = .returned (.int .i64 (sumB ss : Int)) ∧ Below w.heap.size w W' :=
  (callsIn_wide (n := 4)).1 (BytesOf_in A len cap ss hlen hsum w hS)

set_option maxHeartbeats 1000000 in
theorem BytesOf_spec (A : Option Addr) (len cap : Nat) (ss : List ByteArray) (hlen : len ≤ 1048576) (hsum : sumB ss ≤ 1048576) (w : World) (hS : Strs w w.heap.size A len ss) :
    Calls Try.prog 20 #[.slice A len cap] w fun e w' => e = .returned (.int .i64 (sumB ss : Int)) ∧ w = w' := by
  have HS := Lib.hid hS
  clear hS
  go_enter Try.func20, Try.ntmps20
  go_wp2
  go_loop [3, 4] (fun m i => ∃ k : Nat, k ≤ len ∧ i = .int .i64 k ∧ m = .int .i64 (sumB (ss.take k) : Int)) (fun _ i => len - (intOf i).toNat)
  case atStart => exact ⟨0, Nat.zero_le _, rfl, rfl⟩
  case round =>
    obtain ⟨k, hk, rfl, rfl⟩ := hrel
    have hle := sumB_take_le ss k
    have hle1 := sumB_take_le ss (k + 1)
    by_cases hlt : k < len
    · obtain ⟨b, off, rfl, hb, hc⟩ := HS.out.2 (by omega)
      have hck := hc k hlt
      have hstep := sumB_take_succ ss k (by rw [HS.out.1]; exact hlt)
      obtain ⟨s, hs⟩ : ∃ s, s = ss[k]?.getD ByteArray.empty := ⟨_, rfl⟩
      rw [← hs] at hck hstep
      obtain ⟨M, hM⟩ : ∃ M, M = sumB (ss.take k) := ⟨_, rfl⟩
      rw [← hM] at hle hstep ⊢
      have hb2 : M + s.size ≤ 1048576 := by omega
      have HE := Lib.hid hstep
      clear hs hc hstep hM hle1
      go_wp2
      go_round
      case rel => exact ⟨k + 1, by omega, by go_num, by rw [HE.out]; go_num⟩
      case measure => simp [intOf]; omega
    · have HE : Hid (sumB (ss.take k) = sumB ss) := by
        show _ = _
        rw [List.take_of_length_le (by rw [HS.out.1]; omega)]
      clear hle1
      go_wp2
      go_ret
      exact ⟨ret_int (by rw [HE.out]), rfl⟩

end Go.Proofs.Ytjgkhjdndeiidaa.Tx

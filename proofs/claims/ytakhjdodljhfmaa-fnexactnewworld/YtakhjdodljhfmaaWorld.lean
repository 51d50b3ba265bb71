/-
  Worlds in which nobody is: a list of inns that have seen nothing and have no seat; what eqWorld, markWorld and heldWorld of the laws do at such a one. Condition: at most 1048576 inns.
-/
import Derived.Test.YtakhjdodljhfmaaInn5
import Derived.Test.YtakhjdodljhfmaaInn7
import Derived.Test.YtakhjdodljhfmaaInn11
namespace Go.Proofs.Ytakhjdodljhfmaa.Tx
open Go.RowKit

/-- An inn that has seen nothing and has no seat (its empty lists may be nil or not). -/
structure InnZ where
  MA : Option Addr
  mc : Nat
  t : Int
  SA : Option Addr
  sc : Nat
def InnZ.zero : InnZ := ⟨none, 0, 0, none, 0⟩
def InnZ.cells (z : InnZ) : List Value := [.slice z.MA 0 z.mc, .int .i64 z.t, .slice z.SA 0 z.sc]
def InnZ.val (z : InnZ) : Value := .agg z.cells.toArray
instance : Cells InnZ := ⟨3, by decide, InnZ.cells, fun _ => rfl, fun a v hv => by
  simp only [InnZ.cells, List.mem_cons, List.not_mem_nil, or_false] at hv
  rcases hv with rfl | rfl | rfl <;> rfl⟩
theorem innz_at {w : World} {g o : Nat} {z : InnZ} (h : At w g o z) : w.cell? ⟨g, o, none⟩ = some (.slice z.MA 0 z.mc) ∧ w.cell? ⟨g, o + 1, none⟩ = some (.int .i64 z.t) ∧ w.cell? ⟨g, o + 2, none⟩ = some (.slice z.SA 0 z.sc) := ⟨h 0 _ rfl, h 1 _ rfl, h 2 _ rfl⟩
theorem EltsO.nth {α : Type} [Cells α] {w : World} {B n k : Nat} {A : Option Addr} {l : List α} (h : EltsO w B A n l) (hk : k < n) : ∃ (b off : Nat) (x : α), A = some ⟨b, off, none⟩ ∧ b < B ∧ l[k]? = some x ∧ At w b (off + k * Cells.sz α) x := by
  obtain ⟨b, off, e, hb, hc⟩ := h.2 (by omega)
  have hkl : k < l.length := by rw [h.1]; exact hk
  exact ⟨b, off, _, e, hb, List.getElem?_eq_getElem hkl, hc k _ (List.getElem?_eq_getElem hkl)⟩
theorem At.beyond {α : Type} [Cells α] {w : World} {g o k : Nat} {a : α} {vs : List Value} (h : At w g o a) (hk : k + vs.length ≤ o) : At (Tx.setAll w g k vs) g o a := fun i v hv => by
  rw [setAll_past vs k (by show k + vs.length ≤ o + i; omega)]
  exact h i v hv
/-- Marked from k on. -/
def InnZ.mark (z : InnZ) (k : Nat) : InnZ := { z with t := (k : Int) }
def zMarks : Nat → List InnZ → List InnZ
  | _, [] => []
  | k, z :: r => z.mark k :: zMarks (k + 1) r
theorem zMarks_length : ∀ (k : Nat) (l : List InnZ), (zMarks k l).length = l.length
  | _, [] => rfl
  | k, _ :: r => by rw [zMarks, List.length_cons, List.length_cons, zMarks_length (k + 1) r]
theorem zMarks_at : ∀ (k j : Nat) (l : List InnZ) (z : InnZ), l[j]? = some z → (zMarks k l)[j]? = some (z.mark (k + j))
  | k, 0, x :: r, z, h => by
    rw [List.getElem?_cons_zero] at h
    rw [zMarks, List.getElem?_cons_zero, Option.some.inj h]
    rfl
  | k, j + 1, x :: r, z, h => by
    rw [List.getElem?_cons_succ] at h
    rw [zMarks, List.getElem?_cons_succ, zMarks_at (k + 1) j r z h]
    show some (z.mark (k + 1 + j)) = some (z.mark (k + (j + 1)))
    congr 2
    omega
  | _, _, [], _, h => by simp at h
/-- A loop that ends ahead of its first round. -/
theorem wp_loop_first {P : Program} {c : Code} {Q : Exit → Act → World → Prop} {a : Act} {w : World} (round : c.wp P (Exit.then (fun a' w' => (a' = a ∧ w' = w) ∧ 0 < 0) Q) a w) : (Code.loop c).wp P Q a w :=
  wp_loop (fun a' w' => a' = a ∧ w' = w) (fun _ _ => 0) ⟨rfl, rfl⟩ (fun a' w' h => by obtain ⟨rfl, rfl⟩ := h; exact round)
theorem markInt64S_nil (A : Option Addr) (cap k : Nat) (w : World) : Calls Try.prog 33 #[.slice A 0 cap, .int .i64 (k : Int)] w fun e w' => e = .returned (.int .i64 (k : Int)) ∧ w = w' := by
  go_enter Try.func33, Try.ntmps33
  go_wp2_with fail
  go_loopw [1, 5] (fun kv i wr => i = .int .i64 0 ∧ kv = .int .i64 (k : Int) ∧ w = wr) (fun _ _ _ => 0)
  case atStart => exact ⟨rfl, rfl, rfl⟩
  case round =>
    obtain ⟨rfl, rfl, rfl⟩ := hrel
    go_wp2
    go_ret
    exact ⟨rfl, rfl⟩
theorem heldInt64S_nil (A : Option Addr) (cap k : Nat) (w : World) : Calls Try.prog 37 #[.slice A 0 cap, .int .i64 (k : Int)] w fun e w' => e = .returned (.int .i64 (k : Int)) ∧ w = w' := by
  go_enter Try.func37, Try.ntmps37
  go_wp2_with fail
  go_loopw [1, 5] (fun kv i wr => i = .int .i64 0 ∧ kv = .int .i64 (k : Int) ∧ w = wr) (fun _ _ _ => 0)
  case atStart => exact ⟨rfl, rfl, rfl⟩
  case round =>
    obtain ⟨rfl, rfl, rfl⟩ := hrel
    go_wp2
    go_ret
    exact ⟨rfl, rfl⟩
set_option maxRecDepth 100000 in
set_option maxHeartbeats 2000000 in
theorem markGuestS_nil (A : Option Addr) (cap k : Nat) (w : World) : Calls Try.prog 18 #[.slice A 0 cap, .int .i64 (k : Int)] w fun e w' => e = .returned (.int .i64 (k : Int)) ∧ w = w' := by
  go_enter Try.func18, Try.ntmps18
  go_wp2_with fail
  refine wp_loop_first ?_
  go_wp2
  go_ret
  exact ⟨rfl, rfl⟩
set_option maxRecDepth 100000 in
set_option maxHeartbeats 2000000 in
theorem heldGuestS_nil (A : Option Addr) (cap k : Nat) (w : World) : Calls Try.prog 22 #[.slice A 0 cap, .int .i64 (k : Int)] w fun e w' => e = .returned (.int .i64 (k : Int)) ∧ w = w' := by
  go_enter Try.func22, Try.ntmps22
  go_wp2_with fail
  refine wp_loop_first ?_
  go_wp2
  go_ret
  exact ⟨rfl, rfl⟩
set_option maxRecDepth 100000 in
set_option maxHeartbeats 2000000 in
theorem markTokenS_nil (A : Option Addr) (cap k : Nat) (w : World) : Calls Try.prog 19 #[.slice A 0 cap, .int .i64 (k : Int)] w fun e w' => e = .returned (.int .i64 (k : Int)) ∧ w = w' := by
  go_enter Try.func19, Try.ntmps19
  go_wp2_with fail
  refine wp_loop_first ?_
  go_wp2
  go_ret
  exact ⟨rfl, rfl⟩
set_option maxRecDepth 100000 in
set_option maxHeartbeats 2000000 in
theorem heldTokenS_nil (A : Option Addr) (cap k : Nat) (w : World) : Calls Try.prog 23 #[.slice A 0 cap, .int .i64 (k : Int)] w fun e w' => e = .returned (.int .i64 (k : Int)) ∧ w = w' := by
  go_enter Try.func23, Try.ntmps23
  go_wp2_with fail
  refine wp_loop_first ?_
  go_wp2
  go_ret
  exact ⟨rfl, rfl⟩
set_option maxRecDepth 100000 in
set_option maxHeartbeats 2000000 in
theorem markLetterS_nil (A : Option Addr) (cap k : Nat) (w : World) : Calls Try.prog 20 #[.slice A 0 cap, .int .i64 (k : Int)] w fun e w' => e = .returned (.int .i64 (k : Int)) ∧ w = w' := by
  go_enter Try.func20, Try.ntmps20
  go_wp2_with fail
  refine wp_loop_first ?_
  go_wp2
  go_ret
  exact ⟨rfl, rfl⟩
set_option maxRecDepth 100000 in
set_option maxHeartbeats 2000000 in
theorem heldLetterS_nil (A : Option Addr) (cap k : Nat) (w : World) : Calls Try.prog 24 #[.slice A 0 cap, .int .i64 (k : Int)] w fun e w' => e = .returned (.int .i64 (k : Int)) ∧ w = w' := by
  go_enter Try.func24, Try.ntmps24
  go_wp2_with fail
  refine wp_loop_first ?_
  go_wp2
  go_ret
  exact ⟨rfl, rfl⟩
set_option maxRecDepth 100000 in
set_option maxHeartbeats 2000000 in
theorem eqGuestS_nil (A B : Option Addr) (ca cb : Nat) (w : World) : Calls Try.prog 14 #[.slice A 0 ca, .slice B 0 cb] w fun e w' => e = .returned (.bool true) ∧ w = w' := by
  go_enter Try.func14, Try.ntmps14
  go_wp2
  refine wp_loop_first ?_
  go_wp2
  go_ret
  exact ⟨rfl, rfl⟩
set_option maxRecDepth 100000 in
set_option maxHeartbeats 2000000 in
theorem eqTokenS_nil (A B : Option Addr) (ca cb : Nat) (w : World) : Calls Try.prog 15 #[.slice A 0 ca, .slice B 0 cb] w fun e w' => e = .returned (.bool true) ∧ w = w' := by
  go_enter Try.func15, Try.ntmps15
  go_wp2
  refine wp_loop_first ?_
  go_wp2
  go_ret
  exact ⟨rfl, rfl⟩
set_option maxRecDepth 100000 in
set_option maxHeartbeats 2000000 in
theorem eqLetterS_nil (A B : Option Addr) (ca cb : Nat) (w : World) : Calls Try.prog 16 #[.slice A 0 ca, .slice B 0 cb] w fun e w' => e = .returned (.bool true) ∧ w = w' := by
  go_enter Try.func16, Try.ntmps16
  go_wp2
  refine wp_loop_first ?_
  go_wp2
  go_ret
  exact ⟨rfl, rfl⟩

set_option maxRecDepth 100000 in
set_option maxHeartbeats 2000000 in
theorem markInnS_nil (A : Option Addr) (cap k : Nat) (w : World) : Calls Try.prog 17 #[.slice A 0 cap, .int .i64 (k : Int)] w fun e w' => e = .returned (.int .i64 (k : Int)) ∧ w = w' := by
  go_enter Try.func17, Try.ntmps17
  go_wp2_with fail
  refine wp_loop_first ?_
  go_wp2
  go_ret
  exact ⟨rfl, rfl⟩
theorem seatsO_nil (w : World) (B : Nat) (A : Option Addr) : SeatsO w B A 0 [] := ⟨[], ⟨rfl, fun h => absurd h (by omega)⟩, rfl, fun j x q hx => by simp at hx⟩
set_option maxRecDepth 100000 in
set_option maxHeartbeats 16000000 in
theorem eqInnS_bare (A B : Option Addr) (n ca cb : Nat) (is js : List InnZ) (w : World) (hA : EltsO w w.heap.size A n is) (hB : EltsO w w.heap.size B n js) (ht : ∀ (j : Nat) (x y : InnZ), is[j]? = some x → js[j]? = some y → x.t = y.t) (hn : n ≤ 1048576) :
    Calls Try.prog 13 #[.slice A n ca, .slice B n cb] w fun e w' => e = .returned (.bool true) ∧ Below w.heap.size w w' := by
  have HA := Lib.hid hA
  have HB := Lib.hid hB
  have HT := Lib.hid ht
  clear hA hB ht
  go_enter Try.func13, Try.ntmps13
  go_wp2
  go_loopw [5] (fun i wr => ∃ k : Nat, k ≤ n ∧ i = .int .i64 k ∧ Hid (Below w.heap.size w wr)) (fun i _ => n - (intOf i).toNat)
  case atStart => exact ⟨0, Nat.zero_le _, rfl, Below.refl _ _⟩
  case round =>
    obtain ⟨k, hk, rfl, hW⟩ := hrel
    by_cases hlt : k < n
    · obtain ⟨b, off, ⟨xM, xm, xt, xS, xs⟩, rfl, hb, hx, g1⟩ := HA.out.nth hlt
      obtain ⟨b', off', ⟨yM, ym, yt, yS, ys⟩, rfl, hb', hy, g2⟩ := HB.out.nth hlt
      obtain rfl : xt = yt := HT.out k _ _ hx hy
      have f1 : ∀ z : Later w, _ := fun z => innz_at (g1.heap (z.bel.block b hb))
      have f2 : ∀ z : Later w, _ := fun z => innz_at (g2.heap (z.bel.block b' hb'))
      simp only [Cells.sz] at f1 f2
      have cE : Hid (∀ w' : World, Calls Try.prog 29 #[.agg #[.slice xM 0 xm, .int .i64 xt, .slice xS 0 xs], .agg #[.slice yM 0 ym, .int .i64 xt, .slice yS 0 ys]] w' fun e w'' => e = .returned (.bool true) ∧ Below w'.heap.size w' w'') := fun w' => eqInn_same xM yM 0 xm ym [] xt xS yS 0 xs ys [] w' ⟨nums_nil _ _ _, seatsO_nil _ _ _⟩ ⟨nums_nil _ _ _, seatsO_nil _ _ _⟩ (by omega) (by omega) (fun q hq => by cases hq)
      have hk0 : (0 : Int) ≤ (k : Int) := by omega
      have hkn : (k : Int) < (n : Int) := by omega
      clear hx hy g1 g2
      go_wp2
      refine wp_region_later (W := w) hW.out (by kernel_rfl) (by kernel_rfl) ?_
      repeat (go_big_quiet_step ((go_at_call 29; exact calls_later (cE.out _))))
      refine wpQuiet_nil ?_
      rintro _ ⟨⟨w', hw'⟩, rfl⟩
      have Hw' := Lib.hid hw'
      clear hw' f1 f2 cE
      go_wp2
      go_roundw
      case rel => exact ⟨k + 1, by omega, by go_num, Hw'.out⟩
      case measure => simp [intOf]; omega
    · obtain rfl : k = n := by omega
      have hlt' : ¬ (k : Int) < (k : Int) := by omega
      go_wp2
      go_ret
      exact ⟨rfl, hW.out⟩
set_option maxRecDepth 100000 in
set_option maxHeartbeats 16000000 in
theorem markInnS_bare (A : Option Addr) (n cap k base : Nat) (is : List InnZ) (w : World) (h : OutE w base 41 A n cap is) (hk : k ≤ 4194304) (hn : n ≤ 1048576) :
    Calls Try.prog 17 #[.slice A n cap, .int .i64 (k : Int)] w fun e w' => e = .returned (.int .i64 ((k + n : Nat) : Int)) ∧ EltsO w' w'.heap.size A n (zMarks k is) ∧ w.grownBy w' (blkA A) := by
  have hlen := h.len
  by_cases hn0 : n = 0
  · subst hn0
    have hh : is = [] := List.eq_nil_of_length_eq_zero hlen
    subst hh
    refine (markInnS_nil A cap k w).mono ?_
    rintro e w' ⟨rfl, rfl⟩
    exact ⟨rfl, ⟨rfl, fun h => absurd h (by omega)⟩, grown_nil (Below.refl _ _) |> fun g => ⟨g.os, g.tape, g.output, g.size, fun i hi _ => g.block i hi (by intro e; cases e)⟩⟩
  obtain ⟨g, rfl, hg, hT, hI⟩ : ∃ g, A = some ⟨g, 0, none⟩ ∧ g < w.heap.size ∧ There w g 0 (n * 3) ∧ ∀ (j : Nat) (z : InnZ), is[j]? = some z → At w g (j * 3) z := by
    rcases h with ⟨_, e, _⟩ | ⟨g, e, e2, m⟩
    · exact absurd e hn0
    · refine ⟨g, e, m.base.2, ?_, fun j z hz => ?_⟩
      · have := made_there m
        rw [← e2] at this
        exact this
      · have := (MadeG.lies m).2 j z hz
        rw [Nat.zero_add] at this
        exact this
  have HT := Lib.hid hT
  have HI := Lib.hid hI
  have HL := Lib.hid hlen
  clear h hT hI hlen
  go_enter Try.func17, Try.ntmps17
  go_wp2_with fail
  go_loopw [1, 5] (fun kv i wr => ∃ j : Nat, j ≤ n ∧ i = .int .i64 j ∧ kv = .int .i64 ((k + j : Nat) : Int) ∧ Hid (There wr g 0 (n * 3)) ∧ Hid (∀ (i : Nat) (z : InnZ), is[i]? = some z → At wr g (i * 3) (if i < j then z.mark (k + i) else z)) ∧ Hid (w.grownBy wr (some g))) (fun _ i _ => n - (intOf i).toNat)
  case atStart => exact ⟨0, Nat.zero_le _, rfl, by simp, HT.out, (fun i z hz => by rw [if_neg (by omega)]; exact HI.out i z hz), only_refl _ _⟩
  case round =>
    obtain ⟨j, hj, rfl, rfl, hR, hM, hG⟩ := hrel
    by_cases hlt : j < n
    · obtain ⟨z, hz'⟩ : ∃ z, is[j]? = some z := ⟨_, List.getElem?_eq_getElem (by rw [HL.out]; exact hlt)⟩
      have HZ := Lib.hid hz'
      have hlt' : (j : Int) < (n : Int) := by omega
      have hj0 : (0 : Int) ≤ (j : Int) := by omega
      have hg' := hR.out.lt (show 0 < n * 3 by omega)
      have hat := hM.out j z hz'
      rw [if_neg (by omega)] at hat
      obtain ⟨zM, zm, zt, zS, zs⟩ := z
      obtain ⟨c0, c1, c2⟩ := innz_at hat
      dsimp only at c0 c1 c2
      obtain ⟨⟨v0, x0⟩, f0⟩ := hR.out (j * 3) (by omega) (by omega)
      obtain ⟨⟨v1, x1⟩, f1⟩ := hR.out (j * 3 + 1) (by omega) (by omega)
      obtain ⟨⟨v2, x2⟩, f2⟩ := hR.out (j * 3 + 2) (by omega) (by omega)
      clear hat hz' x0 x1 x2
      obtain ⟨K, hK⟩ : ∃ K, k + j = K := ⟨_, rfl⟩
      have HK := Lib.hid hK
      have hK1 : K ≤ 6000000 := by omega
      rw [hK]
      clear hK
      have HN1 : Hid (There (setAll wr g (j * 3 + 1) [.int .i64 (K : Int)]) g 0 (n * 3)) := There.setAll _ _ hR.out
      have HN2 : Hid (∀ (i : Nat) (z : InnZ), is[i]? = some z → At (setAll wr g (j * 3 + 1) [.int .i64 (K : Int)]) g (i * 3) (if i < j + 1 then z.mark (k + i) else z)) := fun i z hz => by
        have ho := hM.out i z hz
        by_cases e : i = j
        · subst e
          rw [if_neg (by omega)] at ho
          rw [if_pos (by omega), HK.out]
          obtain ⟨o0, o1, o2⟩ := innz_at ho
          refine fun r v hv => ?_
          match r, hv with
          | 0, hv => obtain rfl := Option.some.inj hv; exact (setAll_far _ _ (.inr (by show i * 3 + 0 < i * 3 + 1; omega))).trans o0
          | 1, hv => obtain rfl := Option.some.inj hv; exact World.cell?_setCell_same' _ _ _ (by rw [o1]; rfl)
          | 2, hv => obtain rfl := Option.some.inj hv; exact (setAll_past _ _ (by show i * 3 + 1 + 1 ≤ i * 3 + 2; omega)).trans o2
          | r + 3, hv => simp [Cells.cells, InnZ.cells] at hv
        · have e2 : (if i < j then z.mark (k + i) else z) = (if i < j + 1 then z.mark (k + i) else z) := by
            by_cases h1 : i < j
            · rw [if_pos h1, if_pos (by omega)]
            · rw [if_neg h1, if_neg (by omega)]
          rw [← e2]
          by_cases h1 : i < j
          · exact ho.far (by show i * 3 + 3 ≤ _; omega)
          · exact ho.beyond (by show j * 3 + 1 + 1 ≤ _; omega)
      have HN3 : Hid (w.grownBy (setAll wr g (j * 3 + 1) [.int .i64 (K : Int)]) (some g)) := only_setRows _ _ hG.out
      clear hR hM hG
      go_wp2_with fail
      refine (markInt64S_nil zM zm K wr).mono ?_
      rintro e w1 ⟨rfl, rfl⟩
      go_wp2_with fail
      have e5 : (K : Int) + 1 = ((K + 1 : Nat) : Int) := by omega
      rw [e5]
      clear e5 c0 c1 c2 f0 f1 f2
      change Calls Try.prog _ _ (setAll wr g (j * 3 + 1) [.int .i64 (K : Int)]) _
      refine (markSeatS_nil zS zs (K + 1) _).mono ?_
      rintro e w2 ⟨rfl, hw2⟩
      subst hw2
      go_wp2
      go_roundw
      case rel => exact ⟨j + 1, by omega, by go_num, congrArg (Value.int .i64) (by have := HK.out; omega), HN1.out, HN2.out, HN3.out⟩
      case measure => simp [intOf]; omega
    · obtain rfl : j = n := by omega
      have hlt' : ¬ (j : Int) < (j : Int) := by omega
      go_wp2
      go_ret
      refine ⟨rfl, ⟨by rw [zMarks_length]; exact HL.out, fun _ => ⟨g, 0, rfl, hR.out.lt (by omega), fun i x hx => ?_⟩⟩, hG.out⟩
      have hi : i < is.length := by rw [← zMarks_length k is]; exact (List.getElem?_eq_some_iff.1 hx).1
      have hz := zMarks_at k i is _ (List.getElem?_eq_getElem hi)
      obtain rfl := Option.some.inj (hx.symm.trans hz)
      have := hM.out i _ (List.getElem?_eq_getElem hi)
      rw [if_pos (by rw [← HL.out]; exact hi)] at this
      rw [Nat.zero_add]
      exact this
set_option maxRecDepth 100000 in
set_option maxHeartbeats 16000000 in
theorem heldInnS_bare (A : Option Addr) (n cap k : Nat) (is : List InnZ) (w : World) (h : EltsO w w.heap.size A n (zMarks k is)) (hk : k ≤ 4194304) (hn : n ≤ 1048576) :
    Calls Try.prog 21 #[.slice A n cap, .int .i64 (k : Int)] w fun e w' => e = .returned (.int .i64 ((k + n : Nat) : Int)) ∧ Below w.heap.size w w' := by
  have H := Lib.hid h
  have HL : Hid (is.length = n) := (zMarks_length k is).symm.trans h.1
  clear h
  go_enter Try.func21, Try.ntmps21
  go_wp2_with fail
  go_loopw [1, 5] (fun kv i wr => ∃ j : Nat, j ≤ n ∧ i = .int .i64 j ∧ kv = .int .i64 ((k + j : Nat) : Int) ∧ Hid (wr = w)) (fun _ i _ => n - (intOf i).toNat)
  case atStart => exact ⟨0, Nat.zero_le _, rfl, by simp, rfl⟩
  case round =>
    obtain ⟨j, hj, rfl, rfl, hW⟩ := hrel
    by_cases hlt : j < n
    · have hlt' : (j : Int) < (n : Int) := by omega
      have hj0 : (0 : Int) ≤ (j : Int) := by omega
      obtain ⟨b, off, x, rfl, hb, hx, g1⟩ := H.out.nth hlt
      obtain ⟨z, hz⟩ : ∃ z, is[j]? = some z := ⟨_, List.getElem?_eq_getElem (by rw [HL.out]; exact hlt)⟩
      obtain rfl := Option.some.inj ((zMarks_at k j is z hz).symm.trans hx)
      obtain ⟨c0, c1, c2⟩ := innz_at g1
      obtain ⟨zM, zm, zt, zS, zs⟩ := z
      obtain ⟨K, hK⟩ : ∃ K, k + j = K := ⟨_, rfl⟩
      have HK := Lib.hid hK
      have hK1 : K ≤ 6000000 := by omega
      simp only [InnZ.mark, Cells.sz] at c0 c1 c2
      rw [hK] at c1 ⊢
      rw [← hW.out] at c0 c1 c2
      clear hK hx hz g1
      have hk0 : ¬ (K : Int) < 0 := by omega
      have hk1 : ¬ ((K + 1 : Nat) : Int) < 0 := by omega
      go_wp2_with fail
      refine (heldInt64S_nil zM zm K wr).mono ?_
      rintro e w1 ⟨rfl, rfl⟩
      go_wp2_with fail
      have e5 : (K : Int) + 1 = ((K + 1 : Nat) : Int) := by omega
      rw [e5]
      clear e5 c0 c1 c2
      refine (heldSeatS_nil zS zs (K + 1) _).mono ?_
      rintro e w2 ⟨rfl, hw2⟩
      subst hw2
      go_wp2
      go_roundw
      case rel => exact ⟨j + 1, by omega, by go_num, congrArg (Value.int .i64) (by have := HK.out; omega), hW.out⟩
      case measure => simp [intOf]; omega
    · obtain rfl : j = n := by omega
      have hlt' : ¬ (j : Int) < (j : Int) := by omega
      go_wp2
      go_ret
      exact ⟨rfl, by rw [hW.out]; exact Below.refl _ _⟩
theorem blk7w {w : World} {g : Nat} {v0 v1 v2 v3 v4 v5 v6 : Value} {t : TypeId} (h : w.heap[g]? = some (.cells #[v0, v1, v2, v3, v4, v5, v6] t (0, 0))) : (w.cell? ⟨g, 0, none⟩ = some v0 ∧ w.cell? ⟨g, 1, none⟩ = some v1 ∧ w.cell? ⟨g, 2, none⟩ = some v2 ∧ w.cell? ⟨g, 3, none⟩ = some v3 ∧ w.cell? ⟨g, 4, none⟩ = some v4 ∧ w.cell? ⟨g, 5, none⟩ = some v5 ∧ w.cell? ⟨g, 6, none⟩ = some v6) ∧ w.frozen? ⟨g, 0, none⟩ = false ∧ w.frozen? ⟨g, 1, none⟩ = false ∧ w.frozen? ⟨g, 2, none⟩ = false ∧ w.frozen? ⟨g, 3, none⟩ = false ∧ w.frozen? ⟨g, 4, none⟩ = false ∧ w.frozen? ⟨g, 5, none⟩ = false ∧ w.frozen? ⟨g, 6, none⟩ = false := by
  exact ⟨⟨blk_cell h 0, blk_cell h 1, blk_cell h 2, blk_cell h 3, blk_cell h 4, blk_cell h 5, blk_cell h 6⟩, blk_frozen h 0, blk_frozen h 1, blk_frozen h 2, blk_frozen h 3, blk_frozen h 4, blk_frozen h 5, blk_frozen h 6⟩

/-- What was marked, as a fact that is carried along. -/
def FillZ (w : World) (A : Option Addr) (n : Nat) (l : List InnZ) : Prop := EltsO w w.heap.size A n l
theorem FillZ.heap {w w' : World} {A : Option Addr} {n : Nat} {l : List InnZ} (h : FillZ w A n l) (he : ∀ k, blkA A = some k → w'.heap[k]? = w.heap[k]?) : FillZ w' A n l := EltsO.same' h he
theorem FillZ.on {w w' : World} {A : Option Addr} {n : Nat} {l : List InnZ} (h : FillZ w A n l) (b : Below w.heap.size w w') : FillZ w' A n l := (EltsO.below h b).mono b.size
set_option maxRecDepth 100000 in
set_option maxHeartbeats 8000000 in
theorem eqWorld_bare (s : Int) (n : Nat) (aA bA aG bG aP bP aW bW : Option Addr) (ac bc ag bg ap bp aw bw : Nat) (is js : List InnZ) (w : World) (hA' : EltsO w w.heap.size aA n is) (hB' : EltsO w w.heap.size bA n js) (ht : ∀ (j : Nat) (x y : InnZ), is[j]? = some x → js[j]? = some y → x.t = y.t) (hn : n ≤ 1048576) :
    Calls Try.prog 6 #[.agg #[.int .i64 s, .int .i64 0, .int .i64 s, .slice aA n ac, .slice aG 0 ag, .slice aP 0 ap, .slice aW 0 aw], .agg #[.int .i64 s, .int .i64 0, .int .i64 s, .slice bA n bc, .slice bG 0 bg, .slice bP 0 bp, .slice bW 0 bw]] w fun e w' => e = .returned (.bool true) ∧ Below w.heap.size w w' := by
  have hA := Lib.hid hA'
  have hB := Lib.hid hB'
  clear hA' hB'
  obtain ⟨W0, hW0⟩ : ∃ W, (w.alloc (.cells #[.int .i64 s, .int .i64 0, .int .i64 s, .slice aA n ac, .slice aG 0 ag, .slice aP 0 ap, .slice aW 0 aw] 27)).alloc (.cells #[.int .i64 s, .int .i64 0, .int .i64 s, .slice bA n bc, .slice bG 0 bg, .slice bP 0 bp, .slice bW 0 bw] 27) = W := ⟨_, rfl⟩
  have K0 : Hid (Below w.heap.size w W0) := by rw [← hW0]; exact ((Below.refl _ w).alloc (Nat.le_refl _) _).alloc (by simp; try omega) _
  have P0 : Hid (W0.heap[w.heap.size]? = some (.cells #[.int .i64 s, .int .i64 0, .int .i64 s, .slice aA n ac, .slice aG 0 ag, .slice aP 0 ap, .slice aW 0 aw] 27)) := by rw [← hW0]; exact heap2a w _ _
  have Q0 : Hid (W0.heap[w.heap.size + 1]? = some (.cells #[.int .i64 s, .int .i64 0, .int .i64 s, .slice bA n bc, .slice bG 0 bg, .slice bP 0 bp, .slice bW 0 bw] 27)) := by rw [← hW0]; exact heap2b w _ _
  have EA := Lib.hid ((hA.out.below K0.out).mono K0.out.size)
  have EB := Lib.hid ((hB.out.below K0.out).mono K0.out.size)
  obtain ⟨⟨a0, a1, a2, a3, a4, a5, a6⟩, _⟩ := blk7w P0.out
  obtain ⟨⟨b0, b1, b2, b3, b4, b5, b6⟩, _⟩ := blk7w Q0.out
  go_enter Try.func6, Try.ntmps6
  go_wp2_with fail
  clear a0 a1 a2 a3 a4 a5 a6
  clear b0 b1 b2 b3 b4 b5 b6
  clear hW0
  refine (eqInnS_bare aA bA n ac bc is js W0 EA.out EB.out ht hn).mono ?_
  rintro e w1 ⟨rfl, hb⟩
  have P1 := Lib.hid (blk_on hb P0.out)
  have Q1 := Lib.hid (blk_on hb Q0.out)
  have K1 := Lib.hid (K0.out.trans (hb.mono K0.out.size))
  clear hb P0 Q0 K0
  obtain ⟨⟨a0, a1, a2, a3, a4, a5, a6⟩, _⟩ := blk7w P1.out
  obtain ⟨⟨b0, b1, b2, b3, b4, b5, b6⟩, _⟩ := blk7w Q1.out
  go_wp2_with fail
  clear a0 a1 a2 a3 a4 a5 a6
  clear b0 b1 b2 b3 b4 b5 b6
  refine ((((eqGuestS_nil aG bG ag bg _).mono fun _ _ ⟨he, hw⟩ => ⟨he, hw ▸ Below.refl _ _⟩) : Calls Try.prog _ _ w1 fun e w' => e = .returned (.bool true) ∧ Below w1.heap.size w1 w')).mono ?_
  rintro e w2 ⟨rfl, hb⟩
  have P2 := Lib.hid (blk_on hb P1.out)
  have Q2 := Lib.hid (blk_on hb Q1.out)
  have K2 := Lib.hid (K1.out.trans (hb.mono K1.out.size))
  clear hb P1 Q1 K1
  obtain ⟨⟨a0, a1, a2, a3, a4, a5, a6⟩, _⟩ := blk7w P2.out
  obtain ⟨⟨b0, b1, b2, b3, b4, b5, b6⟩, _⟩ := blk7w Q2.out
  go_wp2_with fail
  clear a0 a1 a2 a3 a4 a5 a6
  clear b0 b1 b2 b3 b4 b5 b6
  refine ((((eqTokenS_nil aP bP ap bp _).mono fun _ _ ⟨he, hw⟩ => ⟨he, hw ▸ Below.refl _ _⟩) : Calls Try.prog _ _ w2 fun e w' => e = .returned (.bool true) ∧ Below w2.heap.size w2 w')).mono ?_
  rintro e w3 ⟨rfl, hb⟩
  have P3 := Lib.hid (blk_on hb P2.out)
  have Q3 := Lib.hid (blk_on hb Q2.out)
  have K3 := Lib.hid (K2.out.trans (hb.mono K2.out.size))
  clear hb P2 Q2 K2
  obtain ⟨⟨a0, a1, a2, a3, a4, a5, a6⟩, _⟩ := blk7w P3.out
  obtain ⟨⟨b0, b1, b2, b3, b4, b5, b6⟩, _⟩ := blk7w Q3.out
  go_wp2_with fail
  clear a0 a1 a2 a3 a4 a5 a6
  clear b0 b1 b2 b3 b4 b5 b6
  refine ((((eqLetterS_nil aW bW aw bw _).mono fun _ _ ⟨he, hw⟩ => ⟨he, hw ▸ Below.refl _ _⟩) : Calls Try.prog _ _ w3 fun e w' => e = .returned (.bool true) ∧ Below w3.heap.size w3 w')).mono ?_
  rintro e w4 ⟨rfl, hb⟩
  have P4 := Lib.hid (blk_on hb P3.out)
  have Q4 := Lib.hid (blk_on hb Q3.out)
  have K4 := Lib.hid (K3.out.trans (hb.mono K3.out.size))
  clear hb P3 Q3 K3
  go_wp2
  go_ret
  exact ⟨rfl, K4.out⟩

set_option maxRecDepth 100000 in
set_option maxHeartbeats 8000000 in
theorem markWorld_bare (s : Int) (n : Nat) (aA aG aP aW : Option Addr) (ac ag ap aw k base : Nat) (is : List InnZ) (w : World) (h : OutE w base 41 aA n ac is) (hk : k ≤ 4194304) (hn : n ≤ 1048576) :
    Calls Try.prog 7 #[.agg #[.int .i64 s, .int .i64 0, .int .i64 s, .slice aA n ac, .slice aG 0 ag, .slice aP 0 ap, .slice aW 0 aw], .int .i64 (k : Int)] w fun e w' => e = .returned (.int .i64 ((k + n : Nat) : Int)) ∧ EltsO w' w'.heap.size aA n (zMarks k is) ∧ w.grownBy w' (blkA aA) := by
  have HLT : ∀ t, blkA aA = some t → t < w.heap.size := fun t e => (h.lt e).2
  obtain ⟨W0, hW0⟩ : ∃ W, w.alloc (.cells #[.int .i64 s, .int .i64 0, .int .i64 s, .slice aA n ac, .slice aG 0 ag, .slice aP 0 ap, .slice aW 0 aw] 27) = W := ⟨_, rfl⟩
  have K0 : Hid (Below w.heap.size w W0) := by rw [← hW0]; exact (Below.refl _ w).alloc (Nat.le_refl _) _
  have P0 : Hid (W0.heap[w.heap.size]? = some (.cells #[.int .i64 s, .int .i64 0, .int .i64 s, .slice aA n ac, .slice aG 0 ag, .slice aP 0 ap, .slice aW 0 aw] 27)) := by rw [← hW0]; exact heap1 w _
  have zW0 : W0.heap.size = w.heap.size + 1 := by rw [← hW0]; simp
  have H := Lib.hid (h.on K0.out)
  clear h
  have gA : Hid (w.grownBy W0 (blkA aA)) := ⟨K0.out.os, K0.out.tape, K0.out.output, K0.out.size, fun i hi _ => K0.out.block i hi⟩
  have hlt : ∀ t, blkA aA = some t → t < w.heap.size := HLT
  obtain ⟨⟨a0, a1, a2, a3, a4, a5, a6⟩, _⟩ := blk7w P0.out
  obtain ⟨m, hm⟩ : ∃ m : Nat, k + n = m := ⟨_, rfl⟩
  rw [hm]
  go_enter Try.func7, Try.ntmps7
  go_wp2_with fail
  clear a0 a1 a2 a3 a4 a5 a6
  clear hW0
  have cm := markInnS_bare aA n ac k base is W0 H.out hk hn
  rw [hm] at cm
  refine cm.mono ?_
  rintro e w1 ⟨rfl, hF, gr⟩
  have HF := Lib.hid hF
  have P1 := Lib.hid ((gr.block _ (blk_in P0.out) (fun e => by have := hlt _ e.symm; omega)).trans P0.out)
  have gB := Lib.hid (only2 gA.out gr)
  clear hF gr gA P0 cm
  obtain ⟨⟨a0, a1, a2, a3, a4, a5, a6⟩, _⟩ := blk7w P1.out
  go_wp2_with fail
  clear a0 a1 a2 a3 a4 a5 a6
  refine (markGuestS_nil aG ag m _).mono ?_
  rintro e wx ⟨rfl, hw⟩
  subst hw
  obtain ⟨⟨a0, a1, a2, a3, a4, a5, a6⟩, _⟩ := blk7w P1.out
  go_wp2_with fail
  clear a0 a1 a2 a3 a4 a5 a6
  refine (markTokenS_nil aP ap m _).mono ?_
  rintro e wx ⟨rfl, hw⟩
  subst hw
  obtain ⟨⟨a0, a1, a2, a3, a4, a5, a6⟩, _⟩ := blk7w P1.out
  go_wp2_with fail
  clear a0 a1 a2 a3 a4 a5 a6
  refine (markLetterS_nil aW aw m _).mono ?_
  rintro e wx ⟨rfl, hw⟩
  subst hw
  go_wp2_with fail
  go_ret
  exact ⟨rfl, HF.out, gB.out⟩

set_option maxRecDepth 100000 in
set_option maxHeartbeats 8000000 in
theorem heldWorld_bare (s : Int) (n : Nat) (aA aG aP aW : Option Addr) (ac ag ap aw k : Nat) (is : List InnZ) (w : World) (h : EltsO w w.heap.size aA n (zMarks k is)) (hk : k ≤ 4194304) (hn : n ≤ 1048576) :
    Calls Try.prog 8 #[.agg #[.int .i64 s, .int .i64 0, .int .i64 s, .slice aA n ac, .slice aG 0 ag, .slice aP 0 ap, .slice aW 0 aw], .int .i64 (k : Int)] w fun e w' => e = .returned (.int .i64 ((k + n : Nat) : Int)) ∧ Below w.heap.size w w' := by
  obtain ⟨W0, hW0⟩ : ∃ W, w.alloc (.cells #[.int .i64 s, .int .i64 0, .int .i64 s, .slice aA n ac, .slice aG 0 ag, .slice aP 0 ap, .slice aW 0 aw] 27) = W := ⟨_, rfl⟩
  have K0 : Hid (Below w.heap.size w W0) := by rw [← hW0]; exact (Below.refl _ w).alloc (Nat.le_refl _) _
  have P0 : Hid (W0.heap[w.heap.size]? = some (.cells #[.int .i64 s, .int .i64 0, .int .i64 s, .slice aA n ac, .slice aG 0 ag, .slice aP 0 ap, .slice aW 0 aw] 27)) := by rw [← hW0]; exact heap1 w _
  have zW0 : W0.heap.size = w.heap.size + 1 := by rw [← hW0]; simp
  have H := Lib.hid ((h.below K0.out).mono K0.out.size)
  clear h
  obtain ⟨⟨a0, a1, a2, a3, a4, a5, a6⟩, _⟩ := blk7w P0.out
  obtain ⟨m, hm⟩ : ∃ m : Nat, k + n = m := ⟨_, rfl⟩
  rw [hm]
  go_enter Try.func8, Try.ntmps8
  go_wp2_with fail
  clear a0 a1 a2 a3 a4 a5 a6
  clear hW0
  have cm := heldInnS_bare aA n ac k is W0 H.out hk hn
  rw [hm] at cm
  have hm0 : ¬ (m : Int) < 0 := by omega
  refine (cm).mono ?_
  rintro e w1 ⟨rfl, hb⟩
  clear cm
  have P1 := Lib.hid (blk_on hb P0.out)
  have K1 := Lib.hid (K0.out.trans (hb.mono K0.out.size))
  clear hb P0 K0
  obtain ⟨⟨a0, a1, a2, a3, a4, a5, a6⟩, _⟩ := blk7w P1.out
  go_wp2_with fail
  clear a0 a1 a2 a3 a4 a5 a6
  refine (heldGuestS_nil aG ag m _).mono ?_
  rintro e wx ⟨rfl, hw⟩
  subst hw
  obtain ⟨⟨a0, a1, a2, a3, a4, a5, a6⟩, _⟩ := blk7w P1.out
  go_wp2_with fail
  clear a0 a1 a2 a3 a4 a5 a6
  refine (heldTokenS_nil aP ap m _).mono ?_
  rintro e wx ⟨rfl, hw⟩
  subst hw
  obtain ⟨⟨a0, a1, a2, a3, a4, a5, a6⟩, _⟩ := blk7w P1.out
  go_wp2_with fail
  clear a0 a1 a2 a3 a4 a5 a6
  refine (heldLetterS_nil aW aw m _).mono ?_
  rintro e wx ⟨rfl, hw⟩
  subst hw
  go_wp2_with fail
  go_ret
  exact ⟨rfl, K1.out⟩

end Go.Proofs.Ytakhjdodljhfmaa.Tx

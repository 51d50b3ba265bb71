/-
  What the method value (draws).neighbours of the program hands out: each number of the list with the one behind it, in order, till a round says no. Condition: the list has at most 1048576 numbers.
-/
import Derived.RangeFuncNested
import Derived.RangeFuncBound
import Derived.RangeFuncCalls
import Derived.RangeFuncLeaves
import Derived.Shelf.Abstract
import Derived.Shelf.RegionOpen
import Derived.WalkKit
import Derived.OwnWalkIn
import Derived.TacticsInMore
import Derived.LoopNIn
import Derived.LoopIn
import Derived.Lib.Hide
import Derived.Test.YtdpdbidjbidmaaaNums
namespace Go.Proofs.Ytdpdbidjbidmaaa.Tx
open Go.RowKit Go.Shelf

attribute [local go_sem] Oper.semAt_some

/-- No two that stand side by side among the first k are alike. -/
def apartTo (zs : List Int) (k : Nat) : Prop := ∀ j, j + 1 < k → zs[j]?.getD 0 ≠ zs[j + 1]?.getD 0

/-- What a round does: it goes on where x and y differ, and all is as it was; else it has come to St. -/
def Round2 (F : Fence) (n : Nat) (l : Nat) (St : World → World → Prop) (W : World) : Prop :=
  ∀ (q : Nat) (x y : Int), YieldAt F n Try.prog l #[.int .i64 x, .int .i64 y] (W.drewN q) fun e W' =>
    e = .returned (.bool (!decide (x = y))) ∧ ((x ≠ y ∧ W' = W.drewN q) ∨ (x = y ∧ St (W.drewN q) W'))

set_option maxRecDepth 100000 in
set_option maxHeartbeats 2000000 in
theorem neighbours_in (n : Nat) (hn : 1 ≤ n) (l : Nat) (A : Option Addr) (len cap : Nat) (zs : List Int) (hlen : len ≤ 1048576)
    (St : World → World → Prop) (W : World) (hY : Round2 Fence.wide (n - 1) l St W) (hS : Nums W W.heap.size A len zs) :
    CallsIn Fence.wide n Try.prog 67 #[.slice A len cap, .func (.yield l) #[] #[]] W fun e W' => (∃ v, e = .returned v) ∧
      ((apartTo zs len ∧ ∃ q, W' = W.drewN q) ∨ (¬ apartTo zs len ∧ ∃ q, St (W.drewN q) W')) := by
  have HS := Lib.hid hS
  clear hS
  refine callsIn_of_wp Try.func67 rfl trivial ?_ rfl
  simp only [Try.ntmps67, List.size_toArray, List.length_cons, List.length_nil, Nat.reduceAdd, Nat.reduceSub, Array.replicate_succ, Array.replicate_zero, List.push_toArray, List.append_toArray, List.nil_append, List.cons_append]
  gi_wp2
  gi_loopw [4] (fun i wr => ∃ (k q : Nat), i = .int .i64 ((k : Int) + 1) ∧ k ≤ len ∧ apartTo zs (k + 1) ∧ wr = W.drewN q)
    (fun i _ => len + 2 - (intOf i).toNat)
  case atStart => exact ⟨0, 0, rfl, Nat.zero_le _, fun j h => absurd h (by omega), rfl⟩
  case round =>
    obtain ⟨k, q, rfl, hk, hap, hq⟩ := hrel
    have HP := Lib.hid hap
    have HQ := Lib.hid hq
    clear hap hq
    by_cases hlt : k + 1 < len
    · obtain ⟨b, off, rfl, hb, hc⟩ := HS.out.2 (by omega)
      obtain ⟨x, hx⟩ : ∃ x, x = zs[k]?.getD 0 := ⟨_, rfl⟩
      obtain ⟨y, hy⟩ : ∃ y, y = zs[k + 1]?.getD 0 := ⟨_, rfl⟩
      have c1 : wr.cell? ⟨b, off + k, none⟩ = some (.int .i64 x) := by rw [HQ.out, hx]; exact hc k (by omega)
      have c2 : wr.cell? ⟨b, off + (k + 1), none⟩ = some (.int .i64 y) := by rw [HQ.out, hy]; exact hc (k + 1) hlt
      have HX := Lib.hid hx
      have HY := Lib.hid hy
      have hR := hY (q + 1) x y
      have hw1 : W.drewN (q + 1) = wr.drew := by rw [HQ.out]; rfl
      rw [hw1] at hR
      clear hx hy hc hw1
      obtain ⟨fn, tmps, assign, body, hyl, hR⟩ := hR
      have hmx : Try.prog.follows .mixedOrders = true := by kernel_rfl
      have i0 : (0 : Int) ≤ (k : Int) := by omega
      have i1 : (k : Int) < (len : Int) := by omega
      have i2 : (0 : Int) ≤ (k : Int) + 1 := by omega
      have i3 : (k : Int) + 1 < (len : Int) := by omega
      have e1 : IntKind.i64.wrap (k : Int) = (k : Int) := IntWalk.i64_in _ (by omega)
      by_cases hxy : x = y
      · have hR2 := hR.mono (R' := fun e W' => e = .returned (.bool false) ∧ Hid (St wr.drew W')) (by
          rintro e w' ⟨rfl, h⟩
          exact ⟨by simp [hxy], (h.resolve_left (fun c => c.1 hxy)).2⟩)
        have HN : Hid (¬ apartTo zs len) := fun h => h k hlt (HX.out.symm.trans (hxy.trans HY.out))
        clear hR hxy
        gi_wp2
        gi_region_with_o (refine hR2.mono ?_; rintro e w' ⟨rfl, hw'⟩)
        all_goals gi_wp2
        all_goals (refine bodyPost_ret (results_none rfl _ _ _) rfl ?_)
        all_goals exact ⟨⟨_, rfl⟩, .inr ⟨HN.out, q + 1, by have := hw'.out; rw [HQ.out] at this; exact this⟩⟩
      · have hR2 := hR.mono (R' := fun e W' => e = .returned (.bool true) ∧ W' = wr.drew) (by
          rintro e w' ⟨rfl, h⟩
          exact ⟨by simp [hxy], (h.resolve_right (fun c => hxy c.1)).2⟩)
        have HN : Hid (apartTo zs (k + 1 + 1)) := fun j hj => by
          by_cases e : j = k
          · subst e; exact fun h => hxy (HX.out.trans (h.trans HY.out.symm))
          · exact HP.out j (by omega)
        clear hR hxy
        gi_wp2
        gi_region_with_o (refine hR2.mono ?_; rintro e w' ⟨rfl, rfl⟩)
        all_goals gi_wp2
        all_goals go_roundw
        case rel => exact ⟨k + 1, q + 1, by go_num, by omega, HN.out, by rw [HQ.out]; rfl⟩
        case measure => simp [intOf]; omega
        case rel => exact ⟨k + 1, q + 1, by go_num, by omega, HN.out, by rw [HQ.out]; rfl⟩
        case measure => simp [intOf]; omega
    · have HN : Hid (apartTo zs len) := fun j hj => HP.out j (by omega)
      gi_wp2
      go_end0
      exact ⟨⟨_, rfl⟩, .inl ⟨HN.out, q, HQ.out⟩⟩

end Go.Proofs.Ytdpdbidjbidmaaa.Tx

/-
  What drawsOf of the program makes (a copy of the list in new memory), and what slices.SortFunc does with it by draw.compare: the same numbers, rising. Condition: the list has at most 1048576 numbers.
  What the method value (draws).neighbours of the program hands out: each number of the list with the one behind it, in order, till a round says no. Condition: the list has at most 1048576 numbers.
  A range over a method value (an iterator with its receiver bound to it) whose body changes nothing as long as it goes on, and stores one value into one cell where it returns. No condition but those of the theorem.
  What IsDraw, NextDraw and AllUnlike of the program answer. Condition: a list has at most 1048576 numbers.
  What the program's small functions on the map of places do: placesOf, has, isFull, forget, told. Conditions: the list has at most 1048576 numbers, each an int64; told: no two of the list are alike.
  What SeenIn and MemoryOk of the program answer. Conditions: the list has at most 1048576 numbers, each an int64.
  What MemoryOk of the program answers, and what its recallOf makes. Conditions: the list has at most 1048576 numbers, each an int64.
  What InnOk of the program answers. Conditions: at most 1048576 seats, and as many draws in the memory.
  What innWith and copied of the program make of an inn: one like it, in memory of the call's own. Conditions: at most 1048576 numbers in the memory, as many seats, and of each as many words.
-/
import Derived.WalkKit
import Derived.Deep.OwnRows
import Derived.ProofKit
import Derived.Lib.Hide
import Derived.Lib.OwnBridge
import Derived.Test.YtioogmeghmeelaaGreatDoorNums
import Derived.Test.YtioogmeghmeelaaGreatDoorKey0
import Derived.Test.YtioogmeghmeelaaGreatDoorShelf
import Derived.RangeFuncNested
import Derived.RangeFuncBound
import Derived.RangeFuncCalls
import Derived.RangeFuncLeaves
import Derived.Shelf.Abstract
import Derived.Shelf.RegionOpen
import Derived.OwnWalkIn
import Derived.TacticsInMore
import Derived.LoopNIn
import Derived.LoopIn
import Derived.Deep.Draws
import Derived.Test.YtioogmeghmeelaaGreatDoorDraw2
import Derived.Test.YtioogmeghmeelaaGreatDoorImpl2a
import Derived.Maps.OwnSet
import Derived.Maps.RangeWalk
import Derived.Test.YtioogmeghmeelaaGreatDoorBlk
import Derived.Test.YtioogmeghmeelaaGreatDoorMem0
import Derived.Test.YtioogmeghmeelaaGreatDoorMem6
import Derived.Test.YtioogmeghmeelaaGreatDoorInn2
import Derived.Test.YtioogmeghmeelaaGreatDoorInn4
import Derived.Test.YtioogmeghmeelaaGreatDoorImpl14o
import Derived.Test.YtioogmeghmeelaaGreatDoorRegionS
import Derived.Test.YtioogmeghmeelaaGreatDoorRegionR
import Derived.Test.YtioogmeghmeelaaGreatDoorInn8
import Derived.Test.YtioogmeghmeelaaGreatDoorImpl14k
namespace Go.Proofs.YtioogmeghmeelaaGreatDoor.Tx
open Go.RowKit Go.Shelf
open Go.Lib (compareInt)
open Go.Sort (SWO Holds putRow PermIn SortedIn grow)

theorem infoDraw : (Tryz.prog.info? 133).map (fun i => (i.zero, i.size, i.bytes)) = some (some (.int .i64 0), 1, 8) := by kernel_rfl

set_option maxHeartbeats 1000000 in
theorem drawsOf_any (A : Option Addr) (n cap : Nat) (zs : List Int) (w : World) (h : Nums w w.heap.size A n zs) (hn : n ≤ 1048576) :
    Calls Tryz.prog 96 #[.slice A n cap] w fun e w' => e = .returned (.slice (some ⟨w.heap.size, 0, none⟩) n n) ∧ w'.rowIs w.heap.size 133 n (fun i => .int .i64 (zs[i]?.getD 0)) ∧ Below w.heap.size w w' := by
  obtain ⟨hlen, hcells⟩ := h
  have HC := Lib.hid hcells
  clear hcells hlen
  have hmk := run_make_row' (P := Tryz.prog) 141 133 (.int .i64 0) 8 Tryz.underlying141 infoDraw rfl .i64 .i64 n (by omega) (by omega)
  go_enter Tryz.func96, Tryz.ntmps96
  go_wp2
  clear hmk
  go_loopw [11] (fun i wr => ∃ k : Nat, k ≤ n ∧ i = .int .i64 k ∧ wr.rowIs w.heap.size 133 n (fun j => if j < k then .int .i64 (zs[j]?.getD 0) else .int .i64 0) ∧ Below w.heap.size w wr)
    (fun i _ => n - (intOf i).toNat)
  case atStart => exact ⟨0, Nat.zero_le _, rfl, (World.rowIs_made w _ n 133).congr (fun j _ => by simp), (Below.refl _ w).alloc (Nat.le_refl _) _⟩
  case round =>
    obtain ⟨k, hk, rfl, hrow, hB⟩ := hrel
    by_cases hlt : k < n
    · obtain ⟨b, off, rfl, hb, hc⟩ := HC.out (by omega)
      have hck := (hB.cell (p := ⟨b, off + k, none⟩) hb).trans (hc k hlt)
      have hst1 := hrow.cell hlt
      have hst2 := hrow.frozen k
      have HR := Lib.hid hrow
      clear hc hrow
      go_wp2
      go_roundw
      case rel =>
        refine ⟨k + 1, by omega, by go_num, (HR.out.set k _).congr (fun j hj => ?_), hB.setCell (p := ⟨w.heap.size, k, none⟩) (Nat.le_refl _) _⟩
        by_cases e : j = k
        · subst e; simp
        · by_cases hjk : j < k
          · simp only [e, hjk, if_true, if_false]; rw [if_pos (by omega)]
          · simp only [e, hjk, if_false]; rw [if_neg (by omega)]
      case measure => simp [intOf]; omega
    · obtain rfl : k = n := by omega
      have HR := Lib.hid hrow
      clear hrow
      go_wp2
      go_ret
      exact ⟨rfl, HR.out.congr (fun j hj => by rw [if_pos hj]), hB⟩

theorem compare_any (x y : Int) (W : World) : Calls Tryz.prog 98 #[.int .i64 x, .int .i64 y] W fun e w' => e = .returned (.int .i64 (compareInt x y)) ∧ ∃ q, w' = W.drewN q := by
  have hcon := AnyG.cmp_Compare_int cmpL x y W
  change Calls Tryz.prog 106 _ _ _ at hcon
  generalize compareInt x y = r at hcon ⊢
  go_enter Tryz.func98, Tryz.ntmps98
  go_wp2_with (go_at_call 106; refine hcon.mono ?_; rintro e w' ⟨rfl, rfl⟩)
  go_ret
  exact ⟨rfl, 0, rfl⟩

theorem lt_iff (x y : Int) : ltOf compareInt x y = decide (x < y) := by
  unfold ltOf compareInt
  by_cases h1 : x < y
  · simp [h1]
  · by_cases h2 : y < x <;> simp [h1, h2]
theorem swoC : SWO (ltOf compareInt) where
  irrefl x := by rw [lt_iff]; simp
  trans x y z h1 h2 := by rw [lt_iff] at *; simp at *; omega
  ntrans x y z h1 h2 := by rw [lt_iff] at *; simp at *; omega

theorem reads (blk off size : Nat) (w : World) : CmpReads Tryz.prog 98 #[] (Value.int .i64) compareInt blk off size w :=
  fun _ _ _ _ x y => compare_any x y _

set_option maxHeartbeats 1000000 in
theorem SortFunc_any (blk cap : Nat) (d : Array Int) (w : World) (hH : Holds (Value.int .i64) w blk 0 d) (hblk : blk < w.heap.size) (hsz : d.size ≤ 1048576) :
    Calls Tryz.prog 97 #[.slice (some ⟨blk, 0, none⟩) d.size cap, .func (.func 98) #[] #[]] w fun e w' =>
      e = .returned (.tuple #[]) ∧ ∃ d' n os, PermIn 0 d.size d d' ∧ SortedIn (ltOf compareInt) 0 d.size d' ∧ w' = sortWorld (Value.int .i64) w blk 0 n d' os := by
  have eg : ∀ args w, (callFunc 98 args).run Tryz.prog w = .ok (.enter 98 args) w := enters_of Tryz.func98 (by kernel_rfl) rfl
  have hlim : Lib.bitLen d.size < 4611686018427387904 := Nat.lt_of_le_of_lt (Lib.bitLen_le d.size 62 (by omega) (by omega)) (by omega)
  have hp := Any.pdqsortCmpFunc_all pdqL (Value.int .i64) compareInt 98 #[] swoC blk 0 cap d w eg (reads blk 0 d.size w).lays ⟨fun _ => rfl, hH, hblk⟩ (d.size + 1) 0 d.size (Lib.bitLen d.size) d w (by omega) rfl (SW.start hH) (Nat.zero_le _) (Nat.le_refl _) (by omega) hlim (Or.inl rfl)
  change Calls Tryz.prog 104 _ _ _ at hp
  have hl : Calls Tryz.prog 105 #[.int .u64 (d.size : Int)] w fun e w' => e = .returned (.int .i64 (Lib.bitLen d.size : Nat)) ∧ w' = w := by
    have h := Any.bits_Len (SlLaysF0.n15.bits lenL) (d.size : Int) w (by omega) (by omega)
    rw [Int.toNat_natCast] at h
    exact h
  have hs := Go.Sort.pdq_sorts (ltOf compareInt) swoC d 0 d.size (Lib.bitLen d.size) true true (Nat.zero_le _) (Nat.le_refl _) (Or.inl rfl)
  have HS := Lib.hid hs
  clear hs
  generalize Go.Sort.pdq (ltOf compareInt) d 0 d.size (Lib.bitLen d.size) true true = r at hp HS
  clear hH hlim
  generalize Lib.bitLen d.size = bl at hp hl
  have HSZ := hsz
  generalize d.size = m at hp hl HS hsz ⊢
  clear HSZ
  go_enter Tryz.func97, Tryz.ntmps97
  go_wp2_with (first | (go_at_call 105; refine hl.mono ?_; rintro e w' ⟨rfl, rfl⟩) | (go_at_call 104; refine hp.mono ?_; rintro e w' ⟨rfl, n, os, rfl⟩))
  go_end0
  exact ⟨rfl, r, n, os, HS.out.1, HS.out.2, rfl⟩

end Go.Proofs.YtioogmeghmeelaaGreatDoor.Tx
namespace Go.Proofs.YtioogmeghmeelaaGreatDoor.Tx
open Go.RowKit Go.Shelf

attribute [local go_sem] Oper.semAt_some

/-- No two that stand side by side among the first k are alike. -/
def apartTo (zs : List Int) (k : Nat) : Prop := ∀ j, j + 1 < k → zs[j]?.getD 0 ≠ zs[j + 1]?.getD 0

/-- What a round does: it goes on where x and y differ, and all is as it was; else it has come to St. -/
def Round2 (F : Fence) (n : Nat) (l : Nat) (St : World → World → Prop) (W : World) : Prop :=
  ∀ (q : Nat) (x y : Int), YieldAt F n Tryz.prog l #[.int .i64 x, .int .i64 y] (W.drewN q) fun e W' =>
    e = .returned (.bool (!decide (x = y))) ∧ ((x ≠ y ∧ W' = W.drewN q) ∨ (x = y ∧ St (W.drewN q) W'))

set_option maxRecDepth 100000 in
set_option maxHeartbeats 2000000 in
theorem neighbours_in (n : Nat) (hn : 1 ≤ n) (l : Nat) (A : Option Addr) (len cap : Nat) (zs : List Int) (hlen : len ≤ 1048576)
    (St : World → World → Prop) (W : World) (hY : Round2 Fence.wide (n - 1) l St W) (hS : Nums W W.heap.size A len zs) :
    CallsIn Fence.wide n Tryz.prog 99 #[.slice A len cap, .func (.yield l) #[] #[]] W fun e W' => (∃ v, e = .returned v) ∧
      ((apartTo zs len ∧ ∃ q, W' = W.drewN q) ∨ (¬ apartTo zs len ∧ ∃ q, St (W.drewN q) W')) := by
  have HS := Lib.hid hS
  clear hS
  refine callsIn_of_wp Tryz.func99 rfl trivial ?_ rfl
  simp only [Tryz.ntmps99, List.size_toArray, List.length_cons, List.length_nil, Nat.reduceAdd, Nat.reduceSub, Array.replicate_succ, Array.replicate_zero, List.push_toArray, List.append_toArray, List.nil_append, List.cons_append]
  gi_wp2
  gi_loopw [4] (fun i wr => ∃ (k q : Nat), i = .int .i64 ((k : Int) + 1) ∧ k ≤ len ∧ apartTo zs (k + 1) ∧ wr = W.drewN q)
    (fun i _ => len + 2 - (intOf i).toNat)
  case atStart => exact ⟨0, 0, rfl, Nat.zero_le _, fun j h => absurd h (by omega), rfl⟩
  case round =>
    obtain ⟨k, q, rfl, hk, hap, hq⟩ := hrel
    have HP := Lib.hid hap
    have HQ := Lib.hid hq
    clear hap hq
    by_cases hlt : k + 1 < len
    · obtain ⟨b, off, rfl, hb, hc⟩ := HS.out.2 (by omega)
      obtain ⟨x, hx⟩ : ∃ x, x = zs[k]?.getD 0 := ⟨_, rfl⟩
      obtain ⟨y, hy⟩ : ∃ y, y = zs[k + 1]?.getD 0 := ⟨_, rfl⟩
      have c1 : wr.cell? ⟨b, off + k, none⟩ = some (.int .i64 x) := by rw [HQ.out, hx]; exact hc k (by omega)
      have c2 : wr.cell? ⟨b, off + (k + 1), none⟩ = some (.int .i64 y) := by rw [HQ.out, hy]; exact hc (k + 1) hlt
      have HX := Lib.hid hx
      have HY := Lib.hid hy
      have hR := hY (q + 1) x y
      have hw1 : W.drewN (q + 1) = wr.drew := by rw [HQ.out]; rfl
      rw [hw1] at hR
      clear hx hy hc hw1
      obtain ⟨fn, tmps, assign, body, hyl, hR⟩ := hR
      have hmx : Tryz.prog.follows .mixedOrders = true := by kernel_rfl
      have i0 : (0 : Int) ≤ (k : Int) := by omega
      have i1 : (k : Int) < (len : Int) := by omega
      have i2 : (0 : Int) ≤ (k : Int) + 1 := by omega
      have i3 : (k : Int) + 1 < (len : Int) := by omega
      have e1 : IntKind.i64.wrap (k : Int) = (k : Int) := IntWalk.i64_in _ (by omega)
      by_cases hxy : x = y
      · have hR2 := hR.mono (R' := fun e W' => e = .returned (.bool false) ∧ Hid (St wr.drew W')) (by
          rintro e w' ⟨rfl, h⟩
          exact ⟨by simp [hxy], (h.resolve_left (fun c => c.1 hxy)).2⟩)
        have HN : Hid (¬ apartTo zs len) := fun h => h k hlt (HX.out.symm.trans (hxy.trans HY.out))
        clear hR hxy
        gi_wp2
        gi_region_with_o (refine hR2.mono ?_; rintro e w' ⟨rfl, hw'⟩)
        all_goals gi_wp2
        all_goals (refine bodyPost_ret (results_none rfl _ _ _) rfl ?_)
        all_goals exact ⟨⟨_, rfl⟩, .inr ⟨HN.out, q + 1, by have := hw'.out; rw [HQ.out] at this; exact this⟩⟩
      · have hR2 := hR.mono (R' := fun e W' => e = .returned (.bool true) ∧ W' = wr.drew) (by
          rintro e w' ⟨rfl, h⟩
          exact ⟨by simp [hxy], (h.resolve_right (fun c => hxy c.1)).2⟩)
        have HN : Hid (apartTo zs (k + 1 + 1)) := fun j hj => by
          by_cases e : j = k
          · subst e; exact fun h => hxy (HX.out.trans (h.trans HY.out.symm))
          · exact HP.out j (by omega)
        clear hR hxy
        gi_wp2
        gi_region_with_o (refine hR2.mono ?_; rintro e w' ⟨rfl, rfl⟩)
        all_goals gi_wp2
        all_goals go_roundw
        case rel => exact ⟨k + 1, q + 1, by go_num, by omega, HN.out, by rw [HQ.out]; rfl⟩
        case measure => simp [intOf]; omega
        case rel => exact ⟨k + 1, q + 1, by go_num, by omega, HN.out, by rw [HQ.out]; rfl⟩
        case measure => simp [intOf]; omega
    · have HN : Hid (apartTo zs len) := fun j hj => HP.out j (by omega)
      gi_wp2
      go_end0
      exact ⟨⟨_, rfl⟩, .inl ⟨HN.out, q, HQ.out⟩⟩

end Go.Proofs.YtioogmeghmeelaaGreatDoor.Tx
namespace Go.Proofs.YtioogmeghmeelaaGreatDoor.Tx
open Go.RowKit

theorem put_put (W : World) (l : Nat) (o o' : Obj) : (W.putObj l o).putObj l o' = W.putObj l o' := by
  simp [World.putObj]
theorem put_same (W : World) (l : Nat) (o : Obj) (h : W.heap[l]? = some o) : W.putObj l o = W := by
  obtain ⟨hl, he⟩ := Array.getElem?_eq_some_iff.1 h
  unfold World.putObj
  congr 1
  apply Array.ext_getElem?
  intro i
  rw [Array.getElem?_setIfInBounds]
  by_cases e : l = i
  · subst e; rw [if_pos rfl, if_pos hl, h]
  · rw [if_neg e]

/-- How such a body may be left. -/
def quietPost (go : Bool) (B : Nat) (v : Value) (W : World) : Exit → Act → World → Prop
  | .normal, _, W' => go = true ∧ W' = W
  | .ret, _, W' => go = false ∧ W' = W.setCell ⟨B, 0, none⟩ v
  | .exit _, _, _ => False
  | .goto _, _, _ => False
  | .panic _, _, _ => False
  | .outgrown, _, _ => False

/-- What the iterator does, whatever a round that says no has come to (St): it goes through; or it is told to stop. -/
def Walks {α : Type} (n : Nat) (P : Program) (gf : Nat) (bd : Array Value) (encs : α → Array Value) (go : α → Bool) (S Sx : Prop) (w : World) : Prop :=
  ∀ (l : Nat) (St : World → World → Prop) (W : World), Below w.heap.size w W →
    (∀ q x, YieldAt Fence.wide (n - 1) P l (encs x) (W.drewN q) fun e W' => e = .returned (.bool (go x)) ∧ ((go x = true ∧ W' = W.drewN q) ∨ (go x = false ∧ St (W.drewN q) W'))) →
    CallsIn Fence.wide n P gf (bd ++ #[.func (.yield l) #[] #[]]) W fun e W' => (∃ v, e = .returned v) ∧ ((S ∧ ∃ q, W' = W.drewN q) ∨ (Sx ∧ ∃ q, St (W.drewN q) W'))

theorem range_bound {α : Type} {P : Program} {n : Nat} {g : Operand} {ps : Array Tmp} {assign body : Code} {Q : Exit → Act → World → Prop} {a : Act} {w : World}
    (h1 : 1 ≤ n) {gf : Nat} {bd : Array Value} (hg : a.eval g = .func (.func gf) bd #[]) (eg : ∀ args w, (callFunc gf args).run P w = .ok (.enter gf args) w)
    {encs : α → Array Value} (hps : ∀ x, (encs x).size = ps.size) {go : α → Bool} {S Sx : Prop} (hit : Walks (n - 1) P gf bd encs go S Sx w) (a₁ : α → Act) (B : Nat) (v : Value) (hB : B < w.heap.size)
    (hassign : ∀ (l : Nat) (x : α) (W : World) (K : Act → World → Prop), K (a₁ x) W →
      assign.wpIn (Fence.wide.inRound l) (n - 1 - 1) P (Exit.then K (fun _ _ _ => False)) { tmps := (ps.zip (encs x)).foldl (fun t (p, v) => t.setIfInBounds p v) a.tmps, defers := [] } W)
    (hbody : ∀ (l : Nat) (x : α) (W : World), Below w.heap.size w W → body.wpIn (Fence.wide.inRound l) (n - 1 - 1) P (quietPost (go x) B v W) (a₁ x) W)
    (hdone : ∀ (D : Nat) (W : World), w.heap.size ≤ D → S → Below w.heap.size w W → W.heap[D]? = some (.deferred (some [])) → Q .normal { a with defers := { target := .collected D, args := #[] } :: a.defers } W)
    (hstop : ∀ (D : Nat) (W : World), w.heap.size ≤ D → Sx → Below w.heap.size (w.setCell ⟨B, 0, none⟩ v) W → W.heap[D]? = some (.deferred (some [])) → Code.ret.wpIn Fence.wide n P Q { a with defers := { target := .collected D, args := #[] } :: a.defers } W) :
    (Code.rangeFunc g ps assign body).wpIn Fence.wide n P Q a w := by
  refine wpIn_rangeFunc ?_
  intro fn hfn
  obtain ⟨rc, hrc⟩ : ∃ rc : LoopState → Option Code → Loop, rc = fun st pe => { state := st, pending := pe, fn, tmps := a.tmps, params := ps, assign, body, defers := w.heap.size } := ⟨_, rfl⟩
  obtain ⟨W1, hW1⟩ : ∃ W1, W1 = (w.alloc (.deferred (some []))).alloc (.loop (rc .ready none)) := ⟨_, rfl⟩
  have hb1 : Below w.heap.size w W1 := by rw [hW1]; exact ((Below.refl _ w).alloc (Nat.le_refl _) _).alloc (by simp) _
  have hl1 : W1.heap[w.heap.size + 1]? = some (.loop (rc .ready none)) := by
    rw [hW1]; have h := World.alloc_heap_new (w.alloc (.deferred (some []))) (.loop (rc .ready none)); rwa [World.size_alloc] at h
  have hd1 : W1.heap[w.heap.size]? = some (.deferred (some [])) := by
    rw [hW1]; exact (Below.heap_alloc _ _ _ (by simp)).trans (World.alloc_heap_new w _)
  have hlt1 : w.heap.size + 1 < W1.heap.size := (Array.getElem?_eq_some_iff.1 hl1).1
  refine ⟨w.heap.size + 1, [{ target := .collected w.heap.size, args := #[] }], W1, { target := .fn (.func gf) #[], args := bd ++ #[.func (.yield (w.heap.size + 1)) #[] #[]] }, W1, gf, bd ++ #[.func (.yield (w.heap.size + 1)) #[] #[]], W1, ?_, ?_, ?_, ?_, fun _ => h1, ?_⟩
  · rw [hW1, hrc]; exact run_enterLoop_outer _ _ _ _ _
  · simp only [resolve, hg]
    simp [go_sem]
  · intro f' _; trivial
  · simp [invoke, eg]
  · refine (hit (w.heap.size + 1) (fun A A' => A' = ((A.putObj (w.heap.size + 1) (.loop (rc .busy none))).setCell ⟨B, 0, none⟩ v).putObj (w.heap.size + 1) (.loop (rc .done (some .ret)))) W1 hb1 ?_).mono ?_
    · intro q x
      have hl : (W1.drewN q).heap[w.heap.size + 1]? = some (.loop (rc .ready none)) := hl1
      have hy := run_yield (P := P) (args := encs x) hl (by rw [hrc]; exact hps x)
      have hbg := run_beginRound (P := P) hl (by rw [hrc])
      have hlB : ((W1.drewN q).putObj (w.heap.size + 1) (.loop (rc .busy none))).heap[w.heap.size + 1]? = some (.loop (rc .busy none)) := World.putObj_heap_same hlt1
      have hbel : Below w.heap.size w ((W1.drewN q).putObj (w.heap.size + 1) (.loop (rc .busy none))) :=
        ⟨hb1.os, hb1.tape, hb1.output, by rw [World.putObj]; simpa using hb1.size, fun k hk => (World.putObj_heap_other (by omega)).trans (hb1.block k hk)⟩
      have hw := hbody (w.heap.size + 1) x _ hbel
      rw [hrc] at hy hbg
      refine ⟨fn, _, assign, body, hy, roundIn_of_wpIn hfn (hassign _ x _ _ ⟨_, hbg, ?_⟩)⟩
      rw [hrc] at hw
      refine wpIn_mono hw ?_
      intro e a3 W3 hp
      cases e with
      | normal =>
        obtain ⟨hgo, rfl⟩ := hp
        rw [hrc] at hlB
        have hr := run_endRound (P := P) none hlB
        refine ⟨_, _, hr, by rw [hgo]; rfl, .inl ⟨hgo, ?_⟩⟩
        rw [put_put]
        exact put_same _ _ _ (by rw [hrc] at hl; exact hl)
      | ret =>
        obtain ⟨hgo, rfl⟩ := hp
        rw [hrc] at hlB
        have hr := run_endRound (P := P) (some .ret) ((Below.heap_setCell _ ⟨B, 0, none⟩ v _ (by show w.heap.size + 1 ≠ B; omega)).trans hlB)
        exact ⟨_, _, hr, by rw [hgo]; rfl, .inr ⟨hgo, by rw [hrc]; rfl⟩⟩
      | exit id => exact hp.elim
      | goto t => exact hp.elim
      | panic ch => exact hp.elim
      | outgrown => exact hp.elim
    · rintro e W2 ⟨⟨r, rfl⟩, (⟨hS, q, rfl⟩ | ⟨hSx, q, rfl⟩)⟩
      · have hl : (W1.drewN q).heap[w.heap.size + 1]? = some (.loop (rc .ready none)) := hl1
        refine ⟨none, _, by have := run_endLoop (P := P) hl (by rw [hrc]; simp); rw [hrc] at this; exact this, ?_⟩
        refine hdone w.heap.size _ (Nat.le_refl _) hS ?_ ((World.putObj_heap_other (by omega)).trans hd1)
        exact ⟨hb1.os, hb1.tape, hb1.output, by simpa using hb1.size, fun k hk => (World.putObj_heap_other (by omega)).trans (hb1.block k hk)⟩
      · have hs3 : w.heap.size + 1 < (((W1.drewN q).putObj (w.heap.size + 1) (.loop (rc .busy none))).setCell ⟨B, 0, none⟩ v).heap.size := by simpa using hlt1
        have hpe : (rc .done (some .ret)).pending = some .ret := by rw [hrc]
        have hel := run_endLoop (P := P) (World.putObj_heap_same hs3 (o := .loop (rc .done (some .ret)))) (by rw [hrc]; simp)
        rw [hpe] at hel
        refine ⟨some .ret, _, hel, ?_⟩
        refine hstop w.heap.size _ (Nat.le_refl _) hSx ?_ ?_
        · refine ⟨hb1.os, hb1.tape, hb1.output, by simpa using hb1.size, fun k hk => ?_⟩
          refine (World.putObj_heap_other (by omega)).trans ((World.putObj_heap_other (by omega)).trans ?_)
          simp only [World.setCell, Array.getElem?_modify]
          rw [World.putObj_heap_other (by omega), show (W1.drewN q).heap[k]? = w.heap[k]? from hb1.block k hk]
        · refine (World.putObj_heap_other (by omega)).trans ((World.putObj_heap_other (by omega)).trans ((Below.heap_setCell _ _ _ _ (by show w.heap.size ≠ B; omega)).trans ((World.putObj_heap_other (by omega)).trans hd1)))

end Go.Proofs.YtioogmeghmeelaaGreatDoor.Tx
namespace Go.Proofs.YtioogmeghmeelaaGreatDoor.Tx
open Go.RowKit Go.Shelf
open Go.Lib (compareInt)
open Go.Sort (Holds PermIn SortedIn)

attribute [local go_sem] Oper.semAt_some


theorem pairs_walk (n : Nat) (hn : 1 ≤ n) (A : Option Addr) (len cap : Nat) (zs : List Int) (hlen : len ≤ 1048576) (w : World) (hS : Nums w w.heap.size A len zs) :
    Walks n Tryz.prog 99 #[.slice A len cap] (fun p : Int × Int => #[.int .i64 p.1, .int .i64 p.2]) (fun p => !decide (p.1 = p.2)) (apartTo zs len) (¬ apartTo zs len) w := fun l St W hb hY =>
  neighbours_in n hn l A len cap zs hlen St W (fun q x y => (hY q (x, y)).mono fun e W' ⟨he, h⟩ => ⟨he, by
    by_cases hxy : x = y
    · exact .inr ⟨hxy, by simpa [hxy] using h⟩
    · exact .inl ⟨hxy, by simpa [hxy] using h⟩⟩) ((hS.below hb).mono hb.size)

theorem sorted_le {d : Array Int} {n : Nat} (h : SortedIn (ltOf compareInt) 0 n d) (hn : d.size = n) {i j : Nat} (hij : i < j) (hj : j < n) : d.toList[i]?.getD 0 ≤ d.toList[j]?.getD 0 := by
  have h1 := h i j (Nat.zero_le _) hij hj
  rw [lt_iff, decide_eq_false_iff_not] at h1
  rw [Array.getElem?_toList, Array.getElem?_toList, Array.getElem?_eq_getElem (by omega), Array.getElem?_eq_getElem (by omega)]
  simp only [Option.getD_some]
  rw [getElem!_pos _ _ (by omega), getElem!_pos _ _ (by omega)] at h1
  omega

theorem nodup_getD {l : List Int} : l.Nodup ↔ ∀ i j, i < j → j < l.length → l[i]?.getD 0 ≠ l[j]?.getD 0 := by
  rw [List.nodup_iff_pairwise_ne, List.pairwise_iff_getElem]
  constructor
  · intro h i j hij hj
    rw [List.getElem?_eq_getElem (by omega), List.getElem?_eq_getElem hj]
    exact h i j (by omega) hj hij
  · intro h i j hi hj hij
    have := h i j hij hj
    rw [List.getElem?_eq_getElem hi, List.getElem?_eq_getElem hj] at this
    exact this

theorem apart_iff {d : Array Int} {n : Nat} (h : SortedIn (ltOf compareInt) 0 n d) (hn : d.size = n) : apartTo d.toList n ↔ d.toList.Nodup := by
  have hl : d.toList.length = n := by simpa using hn
  rw [nodup_getD]
  constructor
  · intro ha i j hij hj
    have h1 := ha i (by omega)
    have h2 : d.toList[i]?.getD 0 ≤ d.toList[i + 1]?.getD 0 := sorted_le h hn (by omega) (by omega)
    by_cases e : j = i + 1
    · rw [e]; exact h1
    · have h3 : d.toList[i + 1]?.getD 0 ≤ d.toList[j]?.getD 0 := sorted_le h hn (by omega) (by omega)
      omega
  · intro ha j hj
    exact ha j (j + 1) (by omega) (by omega)

set_option maxRecDepth 100000 in
set_option maxHeartbeats 2000000 in
theorem AllUnlike_in (A : Option Addr) (n cap : Nat) (zs : List Int) (w : World) (h : Nums w w.heap.size A n zs) (hn : n ≤ 1048576) :
    CallsIn Fence.wide 4 Tryz.prog 84 #[.slice A n cap] w fun e w' => e = .returned (.bool (unlikeB zs)) ∧ Below w.heap.size w w' := by
  have bR := Boxed.new w 4 (.bool false)
  have hB0 : Below w.heap.size w (w.alloc (.cells #[.bool false] 4)) := (Below.refl _ w).alloc (Nat.le_refl _) _
  have hN0 : Nums (w.alloc (.cells #[.bool false] 4)) (w.alloc (.cells #[.bool false] 4)).heap.size A n zs := (h.below hB0).mono hB0.size
  have hd := callsIn_wide (n := 3) |>.2 (drawsOf_any A n cap zs _ hN0 hn)
  have HL := Lib.hid h.1
  clear hN0 h
  refine callsIn_of_wp_marks Tryz.func84 rfl trivial ?_ rfl
  simp only [Tryz.ntmps84, List.size_toArray, List.length_cons, List.length_nil, Nat.reduceAdd, Nat.reduceSub, Array.replicate_succ, Array.replicate_zero, List.push_toArray, List.append_toArray, List.nil_append, List.cons_append]
  gi_wp2_with (refine ⟨trivial, ?_⟩; gi_at_call 96; refine hd.mono ?_; rintro e w1 ⟨rfl, hrow, hb1⟩)
  rw [World.size_alloc] at hrow hb1
  have hz : zs.toArray.size = n := by simpa using HL.out
  have hH : Holds (Value.int .i64) w1 (w.heap.size + 1) 0 zs.toArray := fun j hj => by
    have hj' : j < n := by rw [← hz]; exact hj
    refine ⟨?_, by rw [Nat.zero_add]; exact hrow.frozen j⟩
    have hl : j < zs.length := by simpa using hj
    rw [Nat.zero_add, hrow.cell hj', getElem!_pos zs.toArray j hj, List.getElem?_eq_getElem hl]
    simp
  have hs := callsIn_wide (n := 3) |>.2 (SortFunc_any (w.heap.size + 1) n zs.toArray w1 hH hrow.lt (by rw [hz]; exact hn))
  rw [hz] at hs
  have HH := Lib.hid hH
  have HB1 := Lib.hid hb1
  have hlt1 := hrow.lt
  clear hrow hH hd hb1
  gi_wp2_with (refine ⟨trivial, ?_⟩; gi_at_call 97; refine hs.mono ?_; rintro e w2 ⟨rfl, d', m, os, hp, hso, hw2⟩; have HW := Lib.hid hw2; clear hw2)
  clear hs
  have hsz : d'.size = n := hp.1.trans hz
  have hb2 : Below (w.heap.size + 1) w1 w2 := by
    rw [HW.out]
    unfold sortWorld
    have h1 : Below (w.heap.size + 1) w1 (Go.Sort.putRow (Value.int .i64) (Go.Sort.ahead w1 m) (w.heap.size + 1) 0 d') := Go.Lib.below_putRow (Below.refl _ _) (Nat.le_refl _)
    exact ⟨h1.os, h1.tape, h1.output, by have := h1.size; simp [Go.Sort.grow] at this ⊢, fun k hk => (Go.Sort.heap_grow_old _ _ (by have := h1.size; omega)).trans (h1.block k hk)⟩
  have hN2 : Nums w2 w2.heap.size (some ⟨w.heap.size + 1, 0, none⟩) n d'.toList := by
    have hlt2 : w.heap.size + 1 < w2.heap.size := Nat.lt_of_lt_of_le hlt1 hb2.size
    refine ⟨by simpa using hsz, fun _ => ⟨w.heap.size + 1, 0, rfl, hlt2, fun j hj => ?_⟩⟩
    have h0 := Go.Sort.holds_putRow (Value.int .i64) (Go.Sort.ahead w1 m) (w.heap.size + 1) 0 zs.toArray d' (Go.Sort.holds_ahead _ _ _ _ _ _ HH.out) hp.1 j (by omega)
    rw [HW.out]
    unfold sortWorld
    rw [Go.Sort.cell?_grow _ _ _ (by have := World.block_lt_of_cell? _ _ h0.1; exact this), h0.1, Array.getElem?_toList, Array.getElem?_eq_getElem (by omega), getElem!_pos _ _ (by omega)]
    rfl
  have hiff : apartTo d'.toList n ↔ zs.Nodup := by
    rw [apart_iff hso hsz]
    have hpp := hp.2.2
    rw [Array.extract_eq_self_of_le (by omega), Array.extract_eq_self_of_le (by omega)] at hpp
    exact hpp.nodup_iff
  have HI := Lib.hid hiff
  have bR2 : Boxed w2 w.heap.size 4 (.bool false) := (hb2.block _ (by omega)).trans ((HB1.out.block _ (by omega)).trans bR)
  have hB2 : Below w.heap.size w w2 := hB0.trans ((HB1.out.mono (by omega)).trans (hb2.mono (by omega)))
  clear hiff hp hso hb2 hB0 bR
  refine range_bound (by decide) (gf := 99) (bd := #[.slice (some ⟨w.heap.size + 1, 0, none⟩) n n]) rfl (enters_of Tryz.func99 (by kernel_rfl) rfl) (fun _ => rfl) (pairs_walk 3 (by decide) _ n n d'.toList hn w2 hN2)
    (fun p => { tmps := #[.slice A n cap, undef, .pointer (some ⟨w.heap.size, 0, none⟩), .slice (some ⟨w.heap.size + 1, 0, none⟩) n n, .int .i64 p.1, .int .i64 p.2, .slice A n cap, .slice (some ⟨w.heap.size + 1, 0, none⟩) n n, .slice (some ⟨w.heap.size + 1, 0, none⟩) n n, .tuple #[], .slice (some ⟨w.heap.size + 1, 0, none⟩) n n, .func (.func 99) #[.slice (some ⟨w.heap.size + 1, 0, none⟩) n n] #[], .int .i64 p.1, .int .i64 p.2, undef, undef, undef], defers := [] }) w.heap.size (.bool false) bR2.lt ?assign ?body ?done ?stop
  case assign =>
    intro l x W K hK
    gi_wp2
    exact hK
  case body =>
    rintro l ⟨x, y⟩ W hb
    have b3 : Boxed W w.heap.size 4 (.bool false) := (hb.block _ bR2.lt).trans bR2
    have hc := b3.cell
    have hf := b3.frozen
    by_cases hxy : x = y
    · subst hxy
      gi_wp2
      exact ⟨by simp, rfl⟩
    · have hne : (x == y) = false := by rw [beq_eq_false_iff_ne]; exact hxy
      have HX := Lib.hid hxy
      clear hxy
      gi_wp2
      exact ⟨by simpa using HX.out, rfl⟩
  case done =>
    rintro D W hD hS hB hK
    have b3 : Boxed W w.heap.size 4 (.bool false) := (hB.block _ bR2.lt).trans bR2
    have hc := b3.cell
    have hf := b3.frozen
    have HU : Hid (unlikeB zs = true) := decide_eq_true (HI.out.1 hS)
    clear hS
    gi_wp2
    have hK' := (KeepsOthers.setCell W ⟨w.heap.size, 0, none⟩ (.bool true)).same D _ hK rfl
    refine ⟨by simp, .inl ⟨_, _, rfl, run_takeDeferred hK', ?_⟩⟩
    have hc5 := cell_kept (World.cell?_setCell_same' W ⟨w.heap.size, 0, none⟩ (.bool true) (by rw [hc]; rfl)) (grownBy_putObj' _ D (.deferred none)) (fun r e => by cases e; exact ⟨_, hK', rfl⟩)
    have hB3 : Below w.heap.size w W := hB2.trans (hB.mono hB2.size)
    refine ⟨.bool true, ?_, by rw [HU.out], (hB3.setCell (p := ⟨w.heap.size, 0, none⟩) (Nat.le_refl _) _).trans (belowK_b (w := w) (Nat.le_refl _) _ D _ _ (by have := hB2.size; omega) hK' rfl rfl)⟩
    simp [results, Tryz.f84, go_sem, hc5]
  case stop =>
    rintro D W hD hSx hB hK
    have b3 : Boxed W w.heap.size 4 (.bool false) := (hB.block _ bR2.lt).trans (bR2.set _)
    have hc := b3.cell
    have HU : Hid (unlikeB zs = false) := decide_eq_false (fun h => hSx (HI.out.2 h))
    clear hSx
    gi_wp2
    refine ⟨by simp, .inl ⟨_, _, rfl, run_takeDeferred hK, ?_⟩⟩
    have hc5 := cell_kept hc (grownBy_putObj' _ D (.deferred none)) (fun r e => by cases e; exact ⟨_, hK, rfl⟩)
    have hB3 : Below w.heap.size w W := (hB2.setCell (p := ⟨w.heap.size, 0, none⟩) (Nat.le_refl _) _).trans (hB.mono hB2.size)
    refine ⟨.bool false, ?_, by rw [HU.out], hB3.trans (belowK_b (w := w) (Nat.le_refl _) W D _ _ (by have := hB2.size; omega) hK rfl rfl)⟩
    simp [results, Tryz.f84, go_sem, hc5]

theorem AllUnlike_impl (A : Option Addr) (n cap : Nat) (zs : List Int) (w : World) (h : Nums w w.heap.size A n zs) (hn : n ≤ 1048576) :
    Calls Tryz.prog 84 #[.slice A n cap] w fun e w' => e = .returned (.bool (unlikeB zs)) ∧ Below w.heap.size w w' :=
  (callsIn_wide (n := 4)).1 (AllUnlike_in A n cap zs w h hn)

end Go.Proofs.YtioogmeghmeelaaGreatDoor.Tx
namespace Go.Proofs.YtioogmeghmeelaaGreatDoor.Tx
open Go.RowKit Go.Maps
open Go.ChangeMaps Go.MapKept Go.WideElems

theorem keyed : Keyed Tryz.prog 2 := int_keyed Tryz.underlying2
theorem zeroInt (w : World) : (zeroValue 3).run Tryz.prog w = .ok (.int .i64 0) w := by kernel_rfl
/-- Block b is the map of the places of zs. -/
def Places (w : World) (b : Nat) (zs : List Int) : Prop := w.ownsMap (H := Unit) Tryz.prog 2 (plainElem Tryz.prog 3) b zs.length (placesD zs zs.length)
theorem Places.lt {w : World} {b : Nat} {zs : List Int} (h : Places w b zs) : b < w.heap.size := World.ownsMap.lt h
theorem Places.kept {w w' : World} {b : Nat} {zs : List Int} {row : Option Nat} (h : Places w b zs) (hg : w.grownBy w' row) (hne : some b ≠ row) : Places w' b zs := World.ownsMap.kept h hg hne
theorem Places.on {w w' : World} {b : Nat} {zs : List Int} (h : Places w b zs) (hb : Below w.heap.size w w') : Places w' b zs := h.kept (row := none) ⟨hb.os, hb.tape, hb.output, hb.size, fun i hi _ => hb.block i hi⟩ (by simp)
theorem Places.alloc {w : World} {b : Nat} {zs : List Int} (h : Places w b zs) (o : Obj) : Places (w.alloc o) b zs := World.ownsMap.alloc h o

theorem size_all {zs : List Int} (hd : zs.Nodup) : Maps.size (placesD (H := Unit) zs zs.length) = zs.length := size_places hd _ (Nat.le_refl _)

/-- clear(m). -/
theorem clear_own {P : Program} {k e t : TypeId} {R : Value → Option (DataW Unit × List MemPlace)} {w : World} {b n : Nat} {D : DataW Unit} (h : w.ownsMap P k R b n D) (ht : P.underlying t = some (.map k e)) (ty : TypeId) :
    ∃ w', (Builtin.clear_ #[t] ty #[.map (some b)]).run P w = .ok (.tuple #[]) w' ∧ w'.ownsMap P k R b 0 (.map []) ∧ w.mapTurned w' b := by
  obtain ⟨es, clock, hb, F, hs, rfl⟩ := h
  exact ⟨setBlock w b (.map #[] clock), by simp [Builtin.clear_, run_underlying ht, MapKept.run_getObj_map hb, MapKept.run_setObj_map _ hb, Result.andThen, setBlock], ⟨#[], clock, heap_setBlock_same hb _, ⟨by simp, stamped_empty _, by simp⟩, Nat.le_refl _, rfl⟩, ⟨es, clock, #[], clock, hb, rfl⟩⟩
theorem wpList_clear_own {P : Program} (w : World) {ops : Array Oper} {rest : List Oper} {o : Oper} {a : Act} {Q : Exit → Act → World → Prop} (hg : o.guard = none) (m : Operand) (t : TypeId) (hop : o.op = Op.call { callee := Callee.builtin Builtin.clear, args := #[m], argTypes := #[t] })
    (k e : TypeId) (ht : P.underlying t = some (.map k e)) (R : Value → Option (DataW Unit × List MemPlace)) (b n : Nat) (D : DataW Unit) (hm : a.eval m = .map (some b)) (hown : w.ownsMap P k R b n D)
    (hK : ∀ w', w'.ownsMap P k R b 0 (.map []) → w.mapTurned w' b → wpList P ops Q rest (a.put o.dst (.tuple #[])) w') : wpList P ops Q (o :: rest) a w := by
  refine wpList_plain hg fun K' hK' => ?_
  obtain ⟨w', hrun, r1, r2⟩ := clear_own hown ht o.type
  unfold Oper.wp
  simp [execOp, hop, resolve, invoke, builtin, hm, hrun, Result.andThen]
  exact hK' _ _ (hK w' r1 r2)

/-- What has been filled in: the numbers that are no longer to come. -/
def filled (zs : List Int) (left : Lit → Bool) (j : Nat) : Value := .int .i64 (if left (.int .i64 (zs[j]?.getD 0)) = true then 0 else zs[j]?.getD 0)
theorem filled_start {zs : List Int} {j : Nat} (hj : j < zs.length) : filled zs (Maps.has (placesD (H := Unit) zs zs.length)) j = .int .i64 0 := by
  unfold filled
  rw [has_places zs _ _ (Nat.le_refl _), List.take_of_length_le (Nat.le_refl _), decide_eq_true, if_pos rfl]
  rw [List.getElem?_eq_getElem hj]; exact List.getElem_mem _
theorem filled_step {zs : List Int} (hd : zs.Nodup) (left : Lit → Bool) {i j : Nat} (hi : i < zs.length) (hj : j < zs.length) :
    filled zs (fun z => left z && !z.sameKey (.int .i64 (zs[i]?.getD 0))) j = if j = i then .int .i64 (zs[i]?.getD 0) else filled zs left j := by
  unfold filled
  by_cases e : j = i
  · subst e
    simp [WideAt.sameKey_self (key_i64 _)]
  · have h1 := Maps.sameKey_ne (lit_ne (fun e' => e (nodup_inj hd hj hi e')))
    simp [e, h1]
theorem filled_end {zs : List Int} {left : Lit → Bool} (h : ∀ kl, left kl = false) (j : Nat) : filled zs left j = .int .i64 (zs[j]?.getD 0) := by
  unfold filled
  rw [h]; rfl

theorem only_cell (w : World) (g k : Nat) (u : Value) : w.grownBy (w.setCell ⟨g, k, none⟩ u) (some g) :=
  ⟨rfl, rfl, rfl, by simp [World.setCell], fun i _ hne => Below.heap_setCell w ⟨g, k, none⟩ u i (by rintro rfl; exact hne rfl)⟩

end Go.Proofs.YtioogmeghmeelaaGreatDoor.Tx
namespace Go.Proofs.YtioogmeghmeelaaGreatDoor.Tx
open Go.RowKit


set_option maxHeartbeats 2000000 in
theorem where_any (A : Option Addr) (n cap : Nat) (zs : List Int) (w : World) (h : Nums w w.heap.size A n zs) (hn : n ≤ 1048576) :
    Calls Tryz.prog 95 #[.slice A n cap, .func (.func 68) #[] #[]] w fun e w' => (∃ (B : Option Addr) (c : Nat), e = .returned (.slice B (zs.filter isDrawB).length c)) ∧ Below w.heap.size w w' := by
  obtain ⟨i0, hi, hz0, hz1, hz2⟩ := info_parts infoInt64
  have HL := Lib.hid h.1
  have HC := Lib.hid h.2
  clear h
  go_enter Tryz.func95, Tryz.ntmps95
  go_wp2
  go_loopw [5, 11] (fun v i wr => ∃ (j : Nat) (g c : Nat), j ≤ n ∧ i = .int .i64 j ∧ v = .slice (some ⟨g, 0, none⟩) ((zs.take j).filter isDrawB).length c ∧ Hid (OwnN wr w.heap.size ((zs.take j).filter isDrawB) (some ⟨g, 0, none⟩) ((zs.take j).filter isDrawB).length c) ∧ Hid (Below w.heap.size w wr)) (fun _ i _ => n - (intOf i).toNat)
  case atStart => exact ⟨0, w.heap.size, 0, Nat.zero_le _, rfl, rfl, ⟨World.ownsRow_made w #[] 0 (Nat.le_refl _) (Nat.zero_le _) rfl⟩, (Below.refl _ w).alloc (Nat.le_refl _) _⟩
  case round =>
    obtain ⟨j, g, c, hj, rfl, rfl, hO, hB⟩ := hrel
    have hfl : ((zs.take j).filter isDrawB).length ≤ n := Nat.le_trans (List.length_filter_le _ _) (by rw [List.length_take, HL.out]; omega)
    by_cases hlt : j < n
    · obtain ⟨b, off, rfl, hb, hc⟩ := HC.out (by omega)
      have hck := (hB.out.cell (p := ⟨b, off + j, none⟩) hb).trans (hc j hlt)
      obtain ⟨y, hy⟩ : ∃ y, y = zs[j]?.getD 0 := ⟨_, rfl⟩
      rw [← hy] at hck
      have HT : Hid ((zs.take (j + 1)).filter isDrawB = (zs.take j).filter isDrawB ++ if isDrawB y = true then [y] else []) := by
        show _ = _
        rw [take_snocN zs j (by rw [HL.out]; exact hlt), List.filter_append, ← hy]
        by_cases h : isDrawB y = true <;> simp [h]
      clear hc hy
      generalize hL : (zs.take j).filter isDrawB = L at hO HT hfl ⊢
      clear hL
      have cD := IsDraw_same y
      have hlo := (hO.out.lt (g := g) rfl).2
      have hbs := hB.out.size
      cases hd : isDrawB y with
      | false =>
        rw [hd] at cD HT
        clear hd
        go_wp2_with fail
        refine (cD _).mono ?_
        rintro e w1 ⟨rfl, rfl⟩
        go_wp2
        go_roundw
        case rel => exact ⟨j + 1, g, c, by omega, by go_num, by rw [HT.out]; simp, by rw [HT.out]; simpa using hO, hB⟩
        case measure => simp [intOf]; omega
      | true =>
        rw [hd] at cD HT
        clear hd
        go_wp2_with fail
        refine (cD _).mono ?_
        rintro e w1 ⟨rfl, rfl⟩
        go_wp2_with (at_builtin; refine wpList_append_own _ rfl _ _ 114 rfl w.heap.size 2 i0 (.int .i64 0) 1 8 Tryz.underlying114 hi hz0 hz1 hz2 rfl (by decide) _ _ _ rfl (hO.out.own.alloc _) ⟨wr.heap.size, 0, none⟩ 1 1 [.int .i64 y] rfl rfl (cell_one_new _ _ _) (by simp [Value.oneCell']) (by unfold maxLen; omega) (by omega) (by simp; omega) ?_; intro v' w3 hown' hgrow _; obtain ⟨g', c', rfl, hM'⟩ := OwnN.snoc hown'; have M' := Lib.hid hM'; have GR := Lib.hid hgrow; clear hown' hgrow hM')
        go_roundw
        case rel => exact ⟨j + 1, g', c', by omega, by go_num, by rw [HT.out]; simp, by rw [HT.out]; simpa using M', (hB.out.alloc hB.out.size _).grown GR.out (by simp; omega) (fun k e => by have e1 : g = k := Option.some.inj e; have := hO.out.lt (g := g) rfl; omega)⟩
        case measure => simp [intOf]; omega
    · obtain rfl : j = n := by omega
      rw [List.take_of_length_le (by rw [HL.out]; exact Nat.le_refl _)]
      go_wp2
      go_ret
      exact ⟨⟨_, _, rfl⟩, hB.out⟩

theorem all_any (A : Option Addr) (n cap : Nat) (zs : List Int) (w : World) (h : Nums w w.heap.size A n zs) (hn : n ≤ 1048576) :
    Calls Tryz.prog 83 #[.slice A n cap, .func (.func 68) #[] #[]] w fun e w' => e = .returned (.bool (zs.all isDrawB)) ∧ Below w.heap.size w w' := by
  have cW := where_any A n cap zs w h hn
  have he : (((zs.filter isDrawB).length : Int) == (n : Int)) = zs.all isDrawB := by
    rw [← h.1, Bool.eq_iff_iff, List.all_eq_true, beq_iff_eq]
    exact ⟨fun e => List.length_filter_eq_length_iff.1 (by omega), fun e => by rw [List.length_filter_eq_length_iff.2 e]⟩
  generalize (zs.filter isDrawB).length = m at cW he
  generalize zs.all isDrawB = y at he ⊢
  clear h
  go_enter Tryz.func83, Tryz.ntmps83
  go_wp2_with fail
  refine cW.mono ?_
  rintro e w1 ⟨⟨B, c, rfl⟩, b⟩
  go_wp2
  go_ret
  exact ⟨rfl, b⟩

theorem eq_flaws (a b c d : Bool) (w : World) : (Op.equalIn 10000 110 (.agg #[.bool a, .bool b, .bool c, .bool d]) (.agg #[.bool false, .bool false, .bool false, .bool false])).run Tryz.prog w = .ok (!a && (!b && (!c && !d))) w := by
  cases a <;> cases b <;> cases c <;> cases d <;> simp [go_sem]

set_option maxRecDepth 100000 in
set_option maxHeartbeats 2000000 in
theorem flawsOf_any (A : Option Addr) (n cap : Nat) (zs : List Int) (s : Int) (w : World) (h : Nums w w.heap.size A n zs) (hn : n ≤ 1048576) :
    Calls Tryz.prog 65 #[.agg #[.slice A n cap, .int .i64 s]] w fun e w' => e = .returned (.agg #[.bool (decide (6 < n)), .bool (!zs.all isDrawB), .bool (!unlikeB zs), .bool (!inB s 0 100000)]) ∧ Below w.heap.size w w' := by
  obtain ⟨V, hV⟩ : ∃ V, (w.alloc (.cells #[.slice A n cap, .int .i64 s] 34)).alloc (.cells #[.bool false, .bool false, .bool false, .bool false] 110) = V := ⟨_, rfl⟩
  have K : Hid (Below w.heap.size w V) := by rw [← hV]; exact ((Below.refl _ w).alloc (Nat.le_refl _) _).alloc (by simp) _
  have B0 : Hid (V.heap[w.heap.size]? = some (.cells #[.slice A n cap, .int .i64 s] 34)) := by rw [← hV]; exact heap2a w _ _
  have R0 : Hid (V.heap[w.heap.size + 1]? = some (.cells #[.bool false, .bool false, .bool false, .bool false] 110)) := by rw [← hV]; exact heap2b w _ _
  have sV : V.heap.size = w.heap.size + 2 := by rw [← hV]; simp
  have HN := Lib.hid (h.below K.out)
  clear h
  have cA : Hid (∀ w' : World, Nums w' w'.heap.size A n zs → Calls Tryz.prog 83 #[.slice A n cap, .func (.func 68) #[] #[]] w' fun e w'' => e = .returned (.bool (zs.all isDrawB)) ∧ Below w'.heap.size w' w'') := fun w' h' => all_any A n cap zs w' h' hn
  have cU : Hid (∀ w' : World, Nums w' w'.heap.size A n zs → Calls Tryz.prog 84 #[.slice A n cap] w' fun e w'' => e = .returned (.bool (unlikeB zs)) ∧ Below w'.heap.size w' w'') := fun w' h' => AllUnlike_impl A n cap zs w' h' hn
  have cT : Hid (∀ w' : World, Calls Tryz.prog 85 #[.int .i64 s] w' fun e w'' => e = .returned (.bool (inB s 0 100000)) ∧ Below w'.heap.size w' w'') := fun w' => (isTime_any s w').mono fun _ _ ⟨he, hw⟩ => ⟨he, hw ▸ Below.refl _ _⟩
  generalize zs.all isDrawB = y1 at cA ⊢
  generalize unlikeB zs = y2 at cU ⊢
  generalize inB s 0 100000 = y3 at cT ⊢
  have hd : decide ((6 : Int) < (n : Int)) = decide (6 < n) := by
    by_cases h6 : 6 < n
    · rw [decide_eq_true h6, decide_eq_true (by omega)]
    · rw [decide_eq_false h6, decide_eq_false (by omega)]
  generalize decide (6 < n) = y0 at hd ⊢
  go_enter Tryz.func65, Tryz.ntmps65
  go_wp2
  clear hV
  have hmr : (plainEnv V [w.heap.size + 1]).mine (w.heap.size + 1) := Or.inr (by simp)
  refine wp_region_own (W := V) [w.heap.size + 1] (fun w' => w'.heap[w.heap.size + 1]? = some (.cells #[.bool false, .bool false, .bool false, .bool false] 110)) (stays_blk hmr _) R0.out [0, 0, 0, 0, 0, 0, 1, 0, 0, 0, 1, 0, 0, 0, 1, 0, 0, 3] (by kernel_rfl) (by kernel_rfl) (by kernel_rfl) ?_
  have fB : ∀ q : In (plainEnv V [w.heap.size + 1]), _ := fun q => (blk2 (q.block B0.out (by simp))).1
  have NN : Hid (∀ w' : World, (plainEnv V [w.heap.size + 1]).C w' → Nums w' w'.heap.size A n zs) := fun w' hC => (HN.out.below (KeptBut.below hC (B := w.heap.size) (by omega) (by simp))).mono (by have := KeptBut.size hC; omega)
  refine wpO_quiet 6 rfl (by kernel_rfl) ?_
  simp only [List.take, List.drop]
  repeat (go_big_quiet_step (fail))
  refine wpQuiet_nil ?_
  refine wpO_call (f := 83) (args := #[.slice A n cap, .func (.func 68) #[] #[]]) (.bool y1) rfl (fun w' => by simp [go_sem]) (fun w' hC _ => cA.out w' (NN.out w' hC)) ?_
  simp only [Act.put, List.setIfInBounds_toArray, List.set_cons_succ, List.set_cons_zero]
  refine wpO_quiet 3 rfl (by kernel_rfl) ?_
  simp only [List.take, List.drop]
  repeat (go_big_quiet_step (fail))
  refine wpQuiet_nil ?_
  refine wpO_call (f := 84) (args := #[.slice A n cap]) (.bool y2) rfl (fun w' => by simp [go_sem]) (fun w' hC _ => cU.out w' (NN.out w' hC)) ?_
  simp only [Act.put, List.setIfInBounds_toArray, List.set_cons_succ, List.set_cons_zero]
  refine wpO_quiet 3 rfl (by kernel_rfl) ?_
  simp only [List.take, List.drop]
  repeat (go_big_quiet_step (fail))
  refine wpQuiet_nil ?_
  refine wpO_call (f := 85) (args := #[.int .i64 s]) (.bool y3) rfl (fun w' => by simp [go_sem]) (fun w' _ _ => cT.out w') ?_
  simp only [Act.put, List.setIfInBounds_toArray, List.set_cons_succ, List.set_cons_zero]
  refine wpO_quiet 2 rfl (by kernel_rfl) ?_
  simp only [List.take, List.drop]
  repeat (go_big_quiet_step (fail))
  refine wpQuiet_nil ?_
  refine wpO_store (g := w.heap.size + 1) (t := 110) (old := #[.bool false, .bool false, .bool false, .bool false]) (fun _ => True) #[.bool y0, .bool (!y1), .bool (!y2), .bool (!y3)] rfl rfl rfl rfl hmr (by kernel_rfl) rfl rfl (fun w' h => ⟨trivial, h⟩) stays_true (away_true _) ?_
  simp only [Act.put]
  refine wpO_nil ?_
  rintro w9 b' ⟨_, hblk⟩
  have b := KeptBut.below b' (B := w.heap.size) (by omega) (by simp)
  go_wp2
  exact row_ret (r := w.heap.size + 1) (cs := #[.bool y0, .bool (!y1), .bool (!y2), .bool (!y3)]) rfl rfl hblk Tryz.underlying110 rfl (by kernel_rfl) rfl ⟨rfl, K.out.trans b⟩

end Go.Proofs.YtioogmeghmeelaaGreatDoor.Tx
namespace Go.Proofs.YtioogmeghmeelaaGreatDoor.Tx
open Go.RowKit

theorem memB_flaws {zs : List Int} {n : Nat} (hn : zs.length = n) (s : Int) : (!decide (6 < n) && (!!zs.all isDrawB && (!!unlikeB zs && !!inB s 0 100000))) = memB zs s := by
  unfold memB
  rw [hn]
  have : (!decide (6 < n)) = decide (n ≤ 6) := by
    by_cases h : n ≤ 6
    · rw [decide_eq_true h, decide_eq_false (by omega)]; rfl
    · rw [decide_eq_false h, decide_eq_true (by omega)]; rfl
  rw [this]
  simp only [Bool.not_not]
  cases zs.all isDrawB <;> cases decide (n ≤ 6) <;> rfl

theorem MemoryOk_impl (A : Option Addr) (n cap : Nat) (zs : List Int) (s : Int) (w : World) (h : Nums w w.heap.size A n zs) (hn : n ≤ 1048576) :
    Calls Tryz.prog 41 #[.agg #[.slice A n cap, .int .i64 s]] w fun e w' => e = .returned (.bool (memB zs s)) ∧ Below w.heap.size w w' := by
  have hf := memB_flaws h.1 s
  obtain ⟨V, hV⟩ : ∃ V, w.alloc (.cells #[.slice A n cap, .int .i64 s] 34) = V := ⟨_, rfl⟩
  have K : Hid (Below w.heap.size w V) := by rw [← hV]; exact (Below.refl _ w).alloc (Nat.le_refl _) _
  have B0 : Hid (V.heap[w.heap.size]? = some (.cells #[.slice A n cap, .int .i64 s] 34)) := by rw [← hV]; exact heap1 w _
  have cF := Lib.hid (flawsOf_any A n cap zs s V (h.on K.out) hn)
  clear h
  generalize decide (6 < n) = y0 at cF hf
  generalize (!zs.all isDrawB) = y1 at cF hf
  generalize (!unlikeB zs) = y2 at cF hf
  generalize (!inB s 0 100000) = y3 at cF hf
  have hq := eq_flaws y0 y1 y2 y3
  rw [hf] at hq
  clear hf
  generalize memB zs s = y at hq ⊢
  obtain ⟨⟨a0, a1⟩, _⟩ := blk2 B0.out
  go_enter Tryz.func41, Tryz.ntmps41
  go_wp2_with fail
  clear hV a0 a1
  refine cF.out.mono ?_
  rintro e w1 ⟨rfl, b⟩
  replace K := Lib.hid (K.out.trans (b.mono K.out.size))
  clear b
  go_wp2
  go_ret
  exact ⟨rfl, K.out⟩

theorem places_away {g x : Nat} (h : x ≠ g) (zs : List Int) : Away g (fun w => Places w x zs) := fun w w' hw hp => by
  obtain ⟨es, clock, hb, r⟩ := hp
  exact ⟨es, clock, (hw x (blk_in hb) h).trans hb, r⟩
/-- What recallOf hands back. -/
def RecOut (zs : List Int) (s : Int) (w : World) (e : Ending) (w' : World) : Prop :=
  ∃ b, e = .returned (.tuple #[.agg #[.map (some b), .int .i64 (sinceI zs s)], .bool (memB zs s)]) ∧ Places w' b (seenL zs s) ∧ w.heap.size ≤ b ∧ Below w.heap.size w w'

end Go.Proofs.YtioogmeghmeelaaGreatDoor.Tx
namespace Go.Proofs.YtioogmeghmeelaaGreatDoor.Tx
open Go.RowKit

/-- The right ones of a list of seats. -/
def okS (ss : List SeatL) : List SeatL := ss.filter fun q => seatOkB q.s q.l.length
theorem okS_le (ss : List SeatL) : (okS ss).length ≤ ss.length := List.length_filter_le _ _
theorem okS_step {ss : List SeatL} {k : Nat} {q : SeatL} (h : ss[k]? = some q) : (okS (ss.take (k + 1))).length = (okS (ss.take k)).length + if seatOkB q.s q.l.length = true then 1 else 0 := by
  rw [okS, okS, List.take_add_one, h, Option.toList_some, List.filter_append, List.length_append]
  cases e : seatOkB q.s q.l.length <;> simp [e]
theorem okS_all (ss : List SeatL) : (((okS ss).length : Int) == (ss.length : Int)) = seatsOkB ss := by
  rw [seatsOkB, Bool.eq_iff_iff, List.all_eq_true, beq_iff_eq]
  exact ⟨fun e => List.length_filter_eq_length_iff.1 (by rw [okS] at e; omega), fun e => by rw [okS, List.length_filter_eq_length_iff.2 e]⟩
theorem infoSeatP : ∃ (i : TypeInfo) (by' : Nat), Tryz.prog.info? 57 = some i ∧ i.zero = some (SeatV.val .zero none 0 0) ∧ i.size = 15 ∧ i.bytes = by' ∧ by' ≤ 400 := by
  obtain ⟨i, hi⟩ := Option.isSome_iff_exists.1 (show (Tryz.prog.info? 57).isSome = true by kernel_rfl)
  have h1 : (Tryz.prog.info? 57).map (fun i => (i.zero, i.size)) = some (some (SeatV.val .zero none 0 0), 15) := by kernel_rfl
  have h2 : ((Tryz.prog.info? 57).map (fun i => decide (i.bytes ≤ 400))) = some true := by kernel_rfl
  rw [hi] at h1 h2
  simp only [Option.map_some, Option.some.injEq, Prod.mk.injEq, decide_eq_true_eq] at h1 h2
  exact ⟨i, i.bytes, hi, h1.1, h1.2, rfl, h2⟩

set_option maxRecDepth 100000 in
set_option maxHeartbeats 16000000 in
theorem seatsWhere_any (A : Option Addr) (n cap : Nat) (ss : List SeatL) (w : World) (h : SeatsO w w.heap.size A n ss) (hn : n ≤ 1048576) :
    Calls Tryz.prog 66 #[.slice A n cap, .func (.func 43) #[] #[]] w fun e w' => (∃ (B : Option Addr) (c : Nat), e = .returned (.slice B (okS ss).length c)) ∧ Below w.heap.size w w' := by
  obtain ⟨i0, by0, hi, hz0, hz1, hz2, hby⟩ := infoSeatP
  have hlen := h.len
  have E := Lib.hid h
  clear h
  go_enter Tryz.func66, Tryz.ntmps66
  go_wp2
  go_loopw [5, 11] (fun v i wr => ∃ (k gb cb : Nat) (out : List SeatH), k ≤ n ∧ i = .int .i64 k ∧ v = .slice (some ⟨gb, 0, none⟩) out.length cb ∧ out.length = (okS (ss.take k)).length ∧ MadeE wr w.heap.size 57 out gb cb ∧ Below w.heap.size w wr) (fun _ i _ => n - (intOf i).toNat)
  case atStart => exact ⟨0, w.heap.size, 0, [], Nat.zero_le _, rfl, rfl, by simp [okS], madeG_nil (heap1 w _) (Nat.le_refl _), (Below.refl _ w).alloc (Nat.le_refl _) _⟩
  case round =>
    obtain ⟨k, gb, cb, out, hk, rfl, rfl, hO, hM, hB⟩ := hrel
    have holen : out.length ≤ n := by
      have h1 := okS_le (ss.take k)
      have h2 : (ss.take k).length ≤ k := by rw [List.length_take]; omega
      omega
    have HM := Lib.hid hM
    have HB := Lib.hid hB
    have HO := Lib.hid hO
    have hgb := hM.base
    have hsB := hB.size
    clear hM hB hO
    by_cases hlt : k < n
    · obtain ⟨b, off, ⟨⟨st, sh, sd, sp, ⟨⟨eu, es, eh, ea⟩, en⟩, ⟨⟨fu, fs, fh, fa⟩, fn⟩⟩, xA, xn, xc⟩, q, rfl, hb, hq, e1, g1, E1, _⟩ := E.out.at hlt
      obtain ⟨c0, c1, c2, c3, c4, c5, c6, c7, c8, c9, c10, c11, c12, c13, c14⟩ := seat_at (g1.heap (HB.out.block b hb))
      have hxl : q.l.length = xn := E1.1
      have e2 : ⟨st, sh, sd, sp, ⟨⟨eu, es, eh, ea⟩, en⟩, ⟨⟨fu, fs, fh, fa⟩, fn⟩⟩ = q.s := e1
      dsimp only at c0 c1 c2 c3 c4 c5 c6 c7 c8 c9 c10 c11 c12 c13 c14
      have hk0 : (0 : Int) ≤ (k : Int) := by omega
      have hkn : (k : Int) < (n : Int) := by omega
      have HS := Lib.hid (okS_step hq)
      obtain ⟨xp, hxp⟩ : ∃ z, seatOkB q.s q.l.length = z := ⟨_, rfl⟩
      rw [hxp] at HS
      have cE : Hid (∀ w' : World, Calls Tryz.prog 43 #[.agg #[.int .i64 st, .int .i64 sh, .int .i64 sd, .int .i64 sp, .int .i64 eu, .int .i64 es, .int .i64 eh, .int .i64 ea, .int .i64 en, .int .i64 fu, .int .i64 fs, .int .i64 fh, .int .i64 fa, .int .i64 fn, .slice xA xn xc]] w' fun e w'' => e = .returned (.bool xp) ∧ Below w'.heap.size w' w'') := fun w' => by
        have h1 := SeatOk_impl0 ⟨st, sh, sd, sp, ⟨⟨eu, es, eh, ea⟩, en⟩, ⟨⟨fu, fs, fh, fa⟩, fn⟩⟩ xA xn xc w'
        rw [show seatOkB ⟨st, sh, sd, sp, ⟨⟨eu, es, eh, ea⟩, en⟩, ⟨⟨fu, fs, fh, fa⟩, fn⟩⟩ xn = xp by rw [e2, ← hxl, hxp]] at h1
        exact h1
      clear hq g1 E1 e1 e2 hxl hxp
      obtain ⟨W1, hW1⟩ : ∃ V, wr.alloc (.cells #[.int .i64 st, .int .i64 sh, .int .i64 sd, .int .i64 sp, .int .i64 eu, .int .i64 es, .int .i64 eh, .int .i64 ea, .int .i64 en, .int .i64 fu, .int .i64 fs, .int .i64 fh, .int .i64 fa, .int .i64 fn, .slice xA xn xc] 57) = V := ⟨_, rfl⟩
      have HM1 : Hid (MadeE W1 w.heap.size 57 out gb cb) := by rw [← hW1]; exact HM.out.below ((Below.refl _ wr).alloc (Nat.le_refl _) _)
      have HB1 : Hid (Below w.heap.size w W1) := by rw [← hW1]; exact HB.out.alloc HB.out.size _
      have X1 : Hid (W1.heap[wr.heap.size]? = some (.cells #[.int .i64 st, .int .i64 sh, .int .i64 sd, .int .i64 sp, .int .i64 eu, .int .i64 es, .int .i64 eh, .int .i64 ea, .int .i64 en, .int .i64 fu, .int .i64 fs, .int .i64 fh, .int .i64 fa, .int .i64 fn, .slice xA xn xc] 57)) := by rw [← hW1]; exact heap1 wr _
      go_wp2_with (refine wpList_load_row rfl 57 _ rfl (wr.heap.size) rfl 57 _ (0, 0) _ X1.out Tryz.underlying57 rfl (by kernel_rfl) ?_)
      clear c0 c1 c2 c3 c4 c5 c6 c7 c8 c9 c10 c11 c12 c13 c14
      refine (cE.out _).mono ?_
      rintro e w2 ⟨rfl, b2⟩
      have HM2 := Lib.hid (HM1.out.below b2)
      have HB2 := Lib.hid (HB1.out.trans (b2.mono HB1.out.size))
      have X2 := Lib.hid (blk_on b2 X1.out)
      have hs2 := b2.size
      have hs1 : wr.heap.size < W1.heap.size := blk_in X1.out
      clear b2 HM1 HB1 X1 HM HB
      try clear hW1
      cases xp with
      | false =>
        go_wp2
        go_roundw
        case rel => exact ⟨k + 1, gb, cb, out, by omega, by go_num, rfl, by rw [HO.out, HS.out]; rfl, HM2.out, HB2.out⟩
        case measure => simp [intOf]; omega
      | true =>
        obtain ⟨⟨a0, a1, a2, a3, a4, a5, a6, a7, a8, a9, a10, a11, a12, a13, a14⟩, _⟩ := blk15 X2.out
        go_wp2_with (at_builtin; refine wpList_append_own _ rfl _ _ 86 rfl w.heap.size 57 i0 (SeatV.val .zero none 0 0) 15 by0 Tryz.underlying86 hi hz0 hz1 hz2 rfl (by decide) _ out.length (out.flatMap Cells.cells) rfl (HM2.out.own.alloc _) ⟨w2.heap.size, 0, none⟩ 1 1 ([(SeatH.mk ⟨st, sh, sd, sp, ⟨⟨eu, es, eh, ea⟩, en⟩, ⟨⟨fu, fs, fh, fa⟩, fn⟩⟩ xA xn xc)].flatMap Cells.cells) rfl rfl (cells_new w2 ([.int .i64 st, .int .i64 sh, .int .i64 sd, .int .i64 sp, .int .i64 eu, .int .i64 es, .int .i64 eh, .int .i64 ea, .int .i64 en, .int .i64 fu, .int .i64 fs, .int .i64 fh, .int .i64 fa, .int .i64 fn, .slice xA xn xc]) _) flat_one (by unfold maxLen; omega) (Nat.le_trans (Nat.mul_le_mul (by omega : out.length + 1 ≤ 1048577) hby) (by decide)) (by simp; omega) ?_; intro v' w3 hown' hgrow hiff; have h9 := made_app (l := out) (l2 := [(SeatH.mk ⟨st, sh, sd, sp, ⟨⟨eu, es, eh, ea⟩, en⟩, ⟨⟨fu, fs, fh, fa⟩, fn⟩⟩ xA xn xc)]) (n := out.length) (m := 1) (gb := gb) (cb := cb) hown' rfl rfl hiff; obtain ⟨gb', cb', rfl, hM'⟩ := h9; have HM' := Lib.hid hM'; have HGR := Lib.hid hgrow; clear hown' hgrow hM' hiff)
        go_roundw
        case rel => exact ⟨k + 1, gb', cb', out ++ [(SeatH.mk ⟨st, sh, sd, sp, ⟨⟨eu, es, eh, ea⟩, en⟩, ⟨⟨fu, fs, fh, fa⟩, fn⟩⟩ xA xn xc)], by omega, by go_num, by first | rfl | simp, by rw [List.length_append, HO.out, HS.out]; rfl, HM'.out, (HB2.out.alloc HB2.out.size _).grown HGR.out (by simp; omega) (by intro k' e; have e1 := Option.some.inj e; dsimp only at e1; omega)⟩
        case measure => simp [intOf]; omega
    · obtain rfl : k = n := by omega
      have hlt' : ¬ (k : Int) < (k : Int) := by omega
      have hR : out.length = (okS ss).length := by rw [HO.out, List.take_of_length_le (by rw [hlen]; omega)]
      rw [hR]
      go_wp2
      go_ret
      exact ⟨⟨_, _, rfl⟩, HB.out⟩

theorem seatsAll_any (A : Option Addr) (n cap : Nat) (ss : List SeatL) (w : World) (h : SeatsO w w.heap.size A n ss) (hn : n ≤ 1048576) :
    Calls Tryz.prog 42 #[.slice A n cap, .func (.func 43) #[] #[]] w fun e w' => e = .returned (.bool (seatsOkB ss)) ∧ Below w.heap.size w w' := by
  have cW := seatsWhere_any A n cap ss w h hn
  have he := okS_all ss
  rw [h.len] at he
  generalize (okS ss).length = m at cW he
  generalize seatsOkB ss = y at he ⊢
  clear h
  go_enter Tryz.func42, Tryz.ntmps42
  go_wp2_with fail
  refine cW.mono ?_
  rintro e w1 ⟨⟨B, c, rfl⟩, b⟩
  go_wp2
  go_ret
  exact ⟨rfl, b⟩

theorem innOk_prog (zs : List Int) (t : Int) (ss : List SeatL) : innOkB zs t ss = (memB zs t && (decide (ss.length ≤ 8) && seatsOkB ss)) := by
  rw [innOkB]
  generalize seatsOkB ss = a
  generalize memB zs t = b
  generalize decide (ss.length ≤ 8) = c
  cases a <;> cases b <;> cases c <;> rfl
set_option maxRecDepth 100000 in
set_option maxHeartbeats 16000000 in
theorem InnOk_impl0 (M : Option Addr) (nm cm : Nat) (zs : List Int) (s : Int) (A : Option Addr) (n cap : Nat) (ss : List SeatL) (w : World) (hM : Nums w w.heap.size M nm zs) (hA : SeatsO w w.heap.size A n ss) (hnm : nm ≤ 1048576) (hn : n ≤ 1048576) :
    Calls Tryz.prog 22 #[.agg #[.slice M nm cm, .int .i64 s, .slice A n cap]] w fun e w' => e = .returned (.bool (innOkB zs s ss)) ∧ Below w.heap.size w w' := by
  have hd : decide ((n : Int) ≤ 8) = decide (ss.length ≤ 8) := by
    rw [hA.len]
    by_cases h8 : n ≤ 8
    · rw [decide_eq_true h8, decide_eq_true (by omega)]
    · rw [decide_eq_false h8, decide_eq_false (by omega)]
  have cM : Hid (∀ w' : World, Nums w' w'.heap.size M nm zs → Calls Tryz.prog 41 #[.agg #[.slice M nm cm, .int .i64 s]] w' fun e w'' => e = .returned (.bool (memB zs s)) ∧ Below w'.heap.size w' w'') := fun w' h' => MemoryOk_impl M nm cm zs s w' h' hnm
  have cA : Hid (∀ w' : World, SeatsO w' w'.heap.size A n ss → Calls Tryz.prog 42 #[.slice A n cap, .func (.func 43) #[] #[]] w' fun e w'' => e = .returned (.bool (seatsOkB ss)) ∧ Below w'.heap.size w' w'') := fun w' h' => seatsAll_any A n cap ss w' h' hn
  rw [innOk_prog]
  have HM := Lib.hid hM
  have HA := Lib.hid hA
  clear hM hA
  generalize memB zs s = y1 at cM ⊢
  generalize seatsOkB ss = y3 at cA ⊢
  generalize decide (ss.length ≤ 8) = y2 at hd ⊢
  obtain ⟨W0, hW0⟩ : ∃ W, w.alloc (.cells #[.slice M nm cm, .int .i64 s, .slice A n cap] 37) = W := ⟨_, rfl⟩
  have K0 : Hid (Below w.heap.size w W0) := by rw [← hW0]; exact (Below.refl _ w).alloc (Nat.le_refl _) _
  have Q0 : Hid (W0.heap[w.heap.size]? = some (.cells #[.slice M nm cm, .int .i64 s, .slice A n cap] 37)) := by rw [← hW0]; exact heap1 w _
  go_enter Tryz.func22, Tryz.ntmps22
  obtain ⟨⟨a0, a1, a2⟩, _⟩ := blk3 Q0.out
  go_wp2_with fail
  clear a0 a1 a2
  clear hW0
  refine (cM.out _ ((HM.out.below K0.out).mono K0.out.size)).mono ?_
  rintro e w1 ⟨rfl, hb⟩
  have Q1 := Lib.hid (blk_on hb Q0.out)
  have K1 := Lib.hid (K0.out.trans (hb.mono K0.out.size))
  clear hb Q0 K0
  obtain ⟨⟨a0, a1, a2⟩, _⟩ := blk3 Q1.out
  cases y1 with
  | false =>
    go_wp2
    go_ret
    exact ⟨rfl, K1.out⟩
  | true =>
    cases y2 with
    | false =>
      go_wp2
      go_ret
      exact ⟨rfl, K1.out⟩
    | true =>
      go_wp2_with fail
      clear a0 a1 a2
      refine (cA.out _ ((HA.out.below K1.out).mono K1.out.size)).mono ?_
      rintro e w2 ⟨rfl, hb⟩
      have Q2 := Lib.hid (blk_on hb Q1.out)
      have K2 := Lib.hid (K1.out.trans (hb.mono K1.out.size))
      clear hb Q1 K1
      go_wp2
      go_ret
      exact ⟨rfl, K2.out⟩
theorem InnOk_impl (M : Option Addr) (nm cm : Nat) (zs : List Int) (s : Int) (A : Option Addr) (n cap : Nat) (ss : List SeatL) (w : World) (h : InnO w w.heap.size M nm A n zs ss) (_ : M = none → cm = 0) (_ : AllI64 zs) (hnm : nm ≤ 1048576) (hn : n ≤ 1048576) (_ : ∀ q ∈ ss, q.l.length ≤ 1048576) : Calls Tryz.prog 22 #[.agg #[.slice M nm cm, .int .i64 s, .slice A n cap]] w fun e w' => e = .returned (.bool (innOkB zs s ss)) ∧ Below w.heap.size w w' := InnOk_impl0 M nm cm zs s A n cap ss w h.mem h.seats hnm hn

end Go.Proofs.YtioogmeghmeelaaGreatDoor.Tx
namespace Go.Proofs.YtioogmeghmeelaaGreatDoor.Tx
open Go.RowKit

theorem nums_at {w : World} {B n : Nat} {ad : Addr} {zs : List Int} {j : Nat} {u : Value} (h : Nums w B (some ad) n zs) (hl : zs.length = n) (hu : (zs.map (Value.int .i64))[j]? = some u) : w.cell? (ad.add j) = some u := by
  have hj : j < n := by
    have := (List.getElem?_eq_some_iff.1 hu).1
    simp [hl] at this; exact this
  obtain ⟨b, off, e, hb, hc⟩ := h.2 (by omega)
  cases e
  rw [Go.WideShapes.add_plain, hc j hj, ← hu, List.getElem?_map, List.getElem?_eq_getElem (by rw [hl]; exact hj)]
  rfl
theorem nums_app {w : World} {base n g : Nat} {zs : List Int} {v : Value} {c m : Nat} (h : w.ownsRow base 2 1 v (0 + n) ([] ++ zs.map (Value.int .i64))) (hf : v = .slice none 0 0 ↔ (Value.slice (some ⟨g, 0, none⟩) m c) = .slice none 0 0 ∧ n = 0) :
    ∃ gb cb, v = .slice (some ⟨gb, 0, none⟩) n cb ∧ OwnN w base zs (some ⟨gb, 0, none⟩) n cb := by
  rw [Nat.zero_add, List.nil_append] at h
  rcases h.2 with ⟨e, _⟩ | ⟨gb, cb, cur, e, _⟩
  · have := (hf.1 e).1
    cases this
  · subst e
    exact ⟨gb, cb, rfl, ⟨h⟩⟩

set_option maxRecDepth 100000 in
set_option maxHeartbeats 4000000 in
theorem numsCopied_any (A : Option Addr) (n cap : Nat) (zs : List Int) (w : World) (h : Nums w w.heap.size A n zs) (hz : A = none → cap = 0) (hn : n ≤ 1048576) :
    Calls Tryz.prog 72 #[.slice A n cap] w fun e w' => ∃ g cb, e = .returned (.slice (some ⟨g, 0, none⟩) n cb) ∧ OwnN w' w.heap.size zs (some ⟨g, 0, none⟩) n cb ∧ Below w.heap.size w w' := by
  obtain ⟨i0, hi, hz0, hz1, hz2⟩ := info_parts infoInt64
  have HL := Lib.hid h.1
  have HZ := Lib.hid hz
  obtain ⟨W0, hW0⟩ : ∃ W, w.alloc (.cells #[] 2) = W := ⟨_, rfl⟩
  have K0 : Hid (Below w.heap.size w W0) := by rw [← hW0]; exact (Below.refl _ w).alloc (Nat.le_refl _) _
  have O0 : Hid (OwnN W0 w.heap.size [] (some ⟨w.heap.size, 0, none⟩) 0 0) := by rw [← hW0]; exact ⟨World.ownsRow_made w #[] 0 (Nat.le_refl _) (Nat.zero_le _) rfl⟩
  have HN := Lib.hid (h.below K0.out)
  have hlt : w.heap.size < W0.heap.size := (O0.out.lt rfl).2
  clear h hz
  go_enter Tryz.func72, Tryz.ntmps72
  rcases A with _ | ad
  · have hn0 : n = 0 := by
      rcases Nat.eq_zero_or_pos n with h | h
      · exact h
      · obtain ⟨_, _, e, _⟩ := HN.out.2 h; cases e
    subst hn0
    obtain rfl : zs = [] := List.length_eq_zero_iff.1 HL.out
    obtain rfl : cap = 0 := HZ.out rfl
    have hap := run_append_owned_none W0 w.heap.size 114 114 2 i0 1 Tryz.underlying114 hi _ 0 [] O0.out.own
    go_wp2
    go_ret
    exact ⟨w.heap.size, 0, rfl, O0.out, K0.out⟩
  · go_wp2_with (at_builtin; refine wpList_append_own _ rfl _ _ 114 rfl w.heap.size 2 i0 (.int .i64 0) 1 8 Tryz.underlying114 hi hz0 hz1 hz2 rfl (by decide) _ 0 [] rfl O0.out.own ad n cap (zs.map (Value.int .i64)) rfl (by simp [HL.out]) (fun j u hu => nums_at HN.out HL.out hu) (by simp [Value.oneCell']) (by unfold maxLen; omega) (by omega) (by omega) ?_; intro v' w3 hown' hgrow hiff; have h9 := nums_app hown' hiff; obtain ⟨gb', cb', rfl, hM'⟩ := h9; have HM' := Lib.hid hM'; have HGR := Lib.hid hgrow; clear hown' hgrow hM' hiff)
    go_ret
    exact ⟨gb', cb', rfl, HM'.out, below_off K0.out HGR.out ⟨Nat.le_refl _, by omega⟩⟩

set_option maxRecDepth 100000 in
set_option maxHeartbeats 32000000 in
theorem innWith_any (M : Option Addr) (nm cm : Nat) (zs : List Int) (s : Int) (A : Option Addr) (n cap : Nat) (ss : List SeatL) (w : World) (h : InnO w w.heap.size M nm A n zs ss) (hMz : M = none → cm = 0) (hnm : nm ≤ 1048576) (hn : n ≤ 1048576) (hl : ∀ q ∈ ss, q.l.length ≤ 1048576) :
    Calls Tryz.prog 44 #[.agg #[.slice M nm cm, .int .i64 s], .slice A n cap] w fun e w' => ∃ i : InnH, e = .returned (i.val s) ∧ i.mn = nm ∧ i.n = n ∧ HeldI w' w.heap.size i zs ss ∧ Below w.heap.size w w' := by
  obtain ⟨i0, by0, hi, hz0, hz1, hz2, hby⟩ := infoSeatP
  have E := Lib.hid h
  have HL := Lib.hid hl
  have hlen := h.seats.len
  clear h hl
  obtain ⟨W0, hW0⟩ : ∃ W, (w.alloc (.cells #[.slice M nm cm, .int .i64 s] 34)).alloc (.cells #[.slice none 0 0, .int .i64 0, .slice none 0 0] 37) = W := ⟨_, rfl⟩
  have K0 : Hid (Below w.heap.size w W0) := by rw [← hW0]; exact ((Below.refl _ w).alloc (Nat.le_refl _) _).alloc (by simp; try omega) _
  have Q0 : Hid (W0.heap[w.heap.size]? = some (.cells #[.slice M nm cm, .int .i64 s] 34)) := by rw [← hW0]; exact heap2a w _ _
  have R0 : Hid (W0.heap[w.heap.size + 1]? = some (.cells #[.slice none 0 0, .int .i64 0, .slice none 0 0] 37)) := by rw [← hW0]; exact heap2b w _ _
  have zW0 : W0.heap.size = w.heap.size + 2 := by rw [← hW0]; simp
  go_enter Tryz.func44, Tryz.ntmps44
  go_wp2_with fail
  clear hW0
  have hW2 : w.heap.size + 2 ≤ W0.heap.size := by omega
  clear zW0
  refine wp_region_own (W := W0) [] (fun _ => True) stays_true trivial [0, 0, 1, 0, 0, 0, 0, 2, 3] (by kernel_rfl) (by kernel_rfl) (by kernel_rfl) ?_
  have fQ : ∀ q : In (plainEnv W0 []), _ := fun q => (blk2 (q.block Q0.out (by simp))).1
  refine wpO_quiet 2 rfl (by kernel_rfl) ?_
  simp only [List.take, List.drop]
  repeat (go_big_quiet_step (fail))
  refine wpQuiet_nil ?_
  refine wpO_callx (f := 72) (args := #[.slice M nm cm]) (α := Nat × Nat) (fun z => .slice (some ⟨z.1, 0, none⟩) nm z.2) (fun z => [z.1]) (fun z w' => OwnN w' W0.heap.size zs (some ⟨z.1, 0, none⟩) nm z.2) rfl (fun w' => by simp [go_sem]) (fun z w1 w2 hw h b => h.on b) (fun G => ?_) (fun w' hw hF => ?_) (fun z hz => ?_)
  · obtain ⟨g, hg, hn⟩ := fresh_above W0.heap.size G
    exact ⟨(g, 0), fun k hk => by simp at hk; subst hk; exact ⟨hg, hn⟩⟩
  · have kb := kept_below hw
    exact (numsCopied_any M nm cm zs w' ((E.out.mem.below (K0.out.trans (kb.mono K0.out.size))).mono (Nat.le_trans K0.out.size kb.size)) hMz hnm).mono fun e w'' ⟨g, cb, he, m, b1⟩ => ⟨(g, cb), he, m.mono kb.size, b1, fun k hk => by simp at hk; subst hk; exact m.lt rfl⟩
  obtain ⟨gm, cb⟩ := z
  dsimp only
  simp only [Act.put, List.setIfInBounds_toArray, List.set_cons_succ, List.set_cons_zero]
  refine wpO_quiet 4 rfl (by kernel_rfl) ?_
  simp only [List.take, List.drop]
  repeat (go_big_quiet_step (fail))
  refine wpQuiet_nil ?_
  refine wpO_alloc (.cells #[.slice none 0 0, .int .i64 0, .slice none 0 0] 37) rfl (fun w' => by simp [go_sem]) fun og mgO hng => ?_
  have hgO : W0.heap.size ≤ og := mgO
  have hneO : gm ≠ og := fun e => hng (by simp [e])
  simp only [Act.put, List.setIfInBounds_toArray, List.set_cons_succ, List.set_cons_zero]
  refine wpO_store (g := og) (t := 37) (old := #[.slice none 0 0, .int .i64 0, .slice none 0 0]) (fun w' => OwnN w' W0.heap.size zs (some ⟨gm, 0, none⟩) nm cb) #[.slice (some ⟨gm, 0, none⟩) nm cb, .int .i64 s, .slice none 0 0] rfl rfl rfl rfl (Env.own _ mgO) (by kernel_rfl) rfl rfl (fun w' h => ⟨h.1.2, h.2⟩) (fun w1 w2 hw h b => h.on b) (fun w1 w2 hw h => h.heap (fun k e => by have e1 : gm = k := Option.some.inj e; subst e1; exact hw gm (h.lt rfl).2 hneO)) ?_
  simp only [Act.put]
  refine wpO_nil ?_
  rintro w1 hb' ⟨hM, hO⟩
  have hb := kept_below hb'
  have lO : og < w1.heap.size := blk_in hO
  have lM : W0.heap.size ≤ gm ∧ gm < w1.heap.size := hM.lt rfl
  have RR := Lib.hid (blk_on hb R0.out)
  have KK := Lib.hid (K0.out.trans (hb.mono K0.out.size))
  have MM := Lib.hid hM
  have OO := Lib.hid hO
  clear hb hb' hM hO Q0 R0 fQ hz hng mgO
  have lR : w.heap.size + 1 < w1.heap.size := blk_in RR.out
  go_wp2
  go_loopw [17] (fun i wr => ∃ (k : Nat) (A' : Option Addr) (c' : Nat) (hs : List SeatH), k ≤ n ∧ i = .int .i64 k ∧ Hid (wr.heap[og]? = some (.cells #[.slice (some ⟨gm, 0, none⟩) nm cb, .int .i64 s, .slice A' k c'] 37)) ∧ Hid (RowS wr w1.heap.size A' k c' hs (ss.take k)) ∧ Hid (GrownS w1 wr (fun t => t = og)) ∧ w1.heap.size ≤ wr.heap.size) (fun i _ => n - (intOf i).toNat)
  case atStart => exact ⟨0, none, 0, [], Nat.zero_le _, rfl, OO.out, by rw [List.take_zero]; exact rowS_nil _ _, GrownS.refl _ _, Nat.le_refl _⟩
  case round =>
    obtain ⟨k, A', c', hs, hk, rfl, hO, hR, hB, hzr⟩ := hrel
    have KW : Below w.heap.size w wr := hB.out.below KK.out KK.out.size (fun j e => by have e1 : j = og := e; omega)
    by_cases hlt : k < n
    · obtain ⟨b, off, ⟨⟨st, sh, sd, sp, ⟨⟨eu, es, eh, ea⟩, en⟩, ⟨⟨fu, fs, fh, fa⟩, fn⟩⟩, xA, xn, xc⟩, q, rfl, hb, hq, e1, g1, E1, xz⟩ := E.out.seats.at hlt
      obtain ⟨c0, c1, c2, c3, c4, c5, c6, c7, c8, c9, c10, c11, c12, c13, c14⟩ := seat_at (g1.heap (KW.block b hb))
      dsimp only at c0 c1 c2 c3 c4 c5 c6 c7 c8 c9 c10 c11 c12 c13 c14
      have hql := HL.out q (List.mem_of_getElem? hq)
      have hxl : q.l.length = xn := E1.1
      have e2 : ⟨st, sh, sd, sp, ⟨⟨eu, es, eh, ea⟩, en⟩, ⟨⟨fu, fs, fh, fa⟩, fn⟩⟩ = q.s := e1
      have hk0 : (0 : Int) ≤ (k : Int) := by omega
      have hkn : (k : Int) < (n : Int) := by omega
      have HE := Lib.hid E1
      have HQ2 := Lib.hid hq
      have HX := Lib.hid e2
      clear e1 e2 g1 E1 hq
      obtain ⟨W1, hW1⟩ : ∃ V, wr.alloc (.cells #[.int .i64 st, .int .i64 sh, .int .i64 sd, .int .i64 sp, .int .i64 eu, .int .i64 es, .int .i64 eh, .int .i64 ea, .int .i64 en, .int .i64 fu, .int .i64 fs, .int .i64 fh, .int .i64 fa, .int .i64 fn, .slice xA xn xc] 57) = V := ⟨_, rfl⟩
      have b1 : Below wr.heap.size wr W1 := by rw [← hW1]; exact (Below.refl _ wr).alloc (Nat.le_refl _) _
      have X1 : Hid (W1.heap[wr.heap.size]? = some (.cells #[.int .i64 st, .int .i64 sh, .int .i64 sd, .int .i64 sp, .int .i64 eu, .int .i64 es, .int .i64 eh, .int .i64 ea, .int .i64 en, .int .i64 fu, .int .i64 fs, .int .i64 fh, .int .i64 fa, .int .i64 fn, .slice xA xn xc] 57)) := by rw [← hW1]; exact heap1 wr _
      have hO1 := Lib.hid (blk_on b1 hO.out)
      have hR1 := Lib.hid (hR.out.on b1)
      have hB1 : Hid (GrownS w1 W1 (fun t => t = og)) := hB.out.trans (GrownS.low b1)
      have KW1 := Lib.hid (KW.trans (b1.mono KW.size))
      have s1 : wr.heap.size < W1.heap.size := blk_in X1.out
      have hzr1 : w1.heap.size ≤ W1.heap.size := by omega
      have hfoot : ∀ t, blkA A' = some t → w1.heap.size ≤ t ∧ t < wr.heap.size := fun t e => hR.out.foot (.inl e)
      have hbA : ∀ t, t < w1.heap.size → blkA A' ≠ some t := fun t ht e => by have := (hfoot t e).1; omega
      clear hO hR hB KW b1
      go_wp2
      clear hW1 c0 c1 c2 c3 c4 c5 c6 c7 c8 c9 c10 c11 c12 c13 c14
      have hS0 : Stays (plainEnv W1 (og :: (blkA A').toList)) (fun w' => w'.heap[og]? = some (.cells #[.slice (some ⟨gm, 0, none⟩) nm cb, .int .i64 s, .slice A' k c'] 37) ∧ w'.ownsRow w1.heap.size 57 15 (.slice A' k c') k (hs.flatMap Cells.cells)) := stays_and (stays_blk (E := plainEnv W1 (og :: (blkA A').toList)) (.inr (by simp)) _) (fun w1 w2 hc h b => own_heap h fun t e => b.block t (h.lt t (by rw [← e]; cases A' <;> rfl)).2)
      refine wp_region_own (W := W1) (og :: (blkA A').toList) (fun w' => w'.heap[og]? = some (.cells #[.slice (some ⟨gm, 0, none⟩) nm cb, .int .i64 s, .slice A' k c'] 37) ∧ w'.ownsRow w1.heap.size 57 15 (.slice A' k c') k (hs.flatMap Cells.cells)) hS0 ⟨hO1.out, hR1.out.own⟩ [0, 5, 0, 1, 2, 3, 0, 3] (by kernel_rfl) (by kernel_rfl) (by kernel_rfl) ?_
      have rX : Hid (∀ x : In (plainEnv W1 (og :: (blkA A').toList)), x.w.heap[wr.heap.size]? = some (.cells #[.int .i64 st, .int .i64 sh, .int .i64 sd, .int .i64 sp, .int .i64 eu, .int .i64 es, .int .i64 eh, .int .i64 ea, .int .i64 en, .int .i64 fu, .int .i64 fs, .int .i64 fh, .int .i64 fa, .int .i64 fn, .slice xA xn xc] 57)) := fun x => x.block X1.out (by simp; exact ⟨by omega, fun e => by have := (hfoot _ e).2; omega⟩)
      refine wpO_quiet 1 rfl (by kernel_rfl) ?_
      simp only [List.take, List.drop]
      repeat (go_big_quiet_step (fail))
      refine wpQuiet_nil ?_
      refine wpO_cell5 (g := og) (i := 2) (cs := #[.slice (some ⟨gm, 0, none⟩) nm cb, .int .i64 s, .slice A' k c']) (.slice A' k c') rfl hS0 (fun w' hw hF => hF.1) rfl (fun w' h => by simp [go_sem, h]) ?_
      simp only [Act.put, List.setIfInBounds_toArray, List.set_cons_succ, List.set_cons_zero]
      refine wpO_load_row rfl 57 _ rfl (wr.heap.size) rfl 57 _ (0, 0) _ rX.out Tryz.underlying57 rfl (by kernel_rfl) ?_
      simp only [Act.put, List.setIfInBounds_toArray, List.set_cons_succ, List.set_cons_zero]
      refine wpO_callx (f := 47) (args := #[.agg #[.int .i64 st, .int .i64 sh, .int .i64 sd, .int .i64 sp, .int .i64 eu, .int .i64 es, .int .i64 eh, .int .i64 ea, .int .i64 en, .int .i64 fu, .int .i64 fs, .int .i64 fh, .int .i64 fa, .int .i64 fn, .slice xA xn xc]]) (α := Nat × Nat) (fun z => .agg #[.int .i64 st, .int .i64 sh, .int .i64 sd, .int .i64 sp, .int .i64 eu, .int .i64 es, .int .i64 eh, .int .i64 ea, .int .i64 en, .int .i64 fu, .int .i64 fs, .int .i64 fh, .int .i64 fa, .int .i64 fn, .slice (some ⟨z.1, 0, none⟩) xn z.2]) (fun z => [z.1]) (fun z w' => MadeE w' W1.heap.size 82 q.l z.1 z.2) rfl (fun w' => by simp [go_sem]) (fun z w1 w2 hw h b => h.below b) (fun G => ?_) (fun w' hw hF => ?_) (fun z hz => ?_)
      · obtain ⟨g, hg, hn⟩ := fresh_above W1.heap.size G
        exact ⟨(g, 0), fun k hk => by simp at hk; subst hk; exact ⟨hg, hn⟩⟩
      · have hz' := hw.size
        have KW' : Below w.heap.size w w' := KW1.out.trans ⟨hw.os, hw.tape, hw.output, hw.size, fun t ht => hw.block t (by have := KW1.out.size; omega) (by simp; exact ⟨by omega, hbA t (by have := KK.out.size; omega)⟩)⟩
        exact (copied_any ⟨st, sh, sd, sp, ⟨⟨eu, es, eh, ea⟩, en⟩, ⟨⟨fu, fs, fh, fa⟩, fn⟩⟩ xA xn xc q.l w' ((HE.out.below KW').mono KW'.size) xz (by omega)).mono fun e w'' ⟨g, cb, he, m, b1⟩ => ⟨(g, cb), he, m.mono hz', b1, fun k hk => by simp at hk; subst hk; exact m.base⟩
      obtain ⟨lg, lc⟩ := z
      have hlg : W1.heap.size ≤ lg := (hz lg (by simp)).1
      dsimp only
      simp only [Act.put, List.setIfInBounds_toArray, List.set_cons_succ, List.set_cons_zero]
      refine wpO_row (.cells #[.int .i64 st, .int .i64 sh, .int .i64 sd, .int .i64 sp, .int .i64 eu, .int .i64 es, .int .i64 eh, .int .i64 ea, .int .i64 en, .int .i64 fu, .int .i64 fs, .int .i64 fh, .int .i64 fa, .int .i64 fn, .slice (some ⟨lg, 0, none⟩) xn lc] 57) 1 rfl (fun w' => by simp [go_sem]) fun ge mge hge => ?_
      simp only [Act.put, List.setIfInBounds_toArray, List.set_cons_succ, List.set_cons_zero]
      refine wpO_appendA (fun w' => w'.heap[og]? = some (.cells #[.slice (some ⟨gm, 0, none⟩) nm cb, .int .i64 s, .slice A' k c'] 37) ∧ MadeE w' W1.heap.size 82 q.l lg lc) _ _ 35 rfl rfl w1.heap.size 57 i0 (SeatV.val .zero none 0 0) 15 by0 Tryz.underlying35 hi hz0 hz1 hz2 rfl (by decide) k (hs.flatMap Cells.cells) A' c' rfl (fun t e => .inr (by simp; exact .inr e)) ⟨ge, 0, none⟩ 1 1 ([(SeatH.mk ⟨st, sh, sd, sp, ⟨⟨eu, es, eh, ea⟩, en⟩, ⟨⟨fu, fs, fh, fa⟩, fn⟩⟩ (some ⟨lg, 0, none⟩) xn lc)].flatMap Cells.cells) rfl rfl flat_one (by omega) (by unfold maxLen; omega) (Nat.le_trans (Nat.mul_le_mul (by omega : k + 1 ≤ 1048577) hby) (by decide)) hzr1 (fun w' hw hF => ⟨⟨hF.1.1.1, hF.1.2⟩, hF.1.1.2, fun j u hu => by rw [Go.WideShapes.add_plain, Nat.zero_add, blk_cell hF.2, ← Array.getElem?_toList]; rw [List.flatMap_cons, List.flatMap_nil, List.append_nil] at hu; exact hu⟩) (stays_and (stays_blk (E := plainEnv W1 (og :: (blkA A').toList)) (.inr (by simp)) _) (fun w1 w2 hw h b => h.below b)) (fun w1 w2 hk h => ⟨(hk og (blk_in h.1) (hbA og lO)).trans h.1, h.2.heap (hk lg h.2.base.2 (fun e => by have := (hfoot lg e).2; omega))⟩) (fun gb' cb' hgb' hgm => ?_)
      simp only [Act.put, List.setIfInBounds_toArray, List.set_cons_succ, List.set_cons_zero]
      refine wpO_quiet 1 rfl (by kernel_rfl) ?_
      simp only [List.take, List.drop]
      repeat (go_big_quiet_step (fail))
      refine wpQuiet_nil ?_
      refine wpO_put (g := og) (i := 2) (t := 37) (cs := #[.slice (some ⟨gm, 0, none⟩) nm cb, .int .i64 s, .slice A' k c']) (fun w' => MadeE w' W1.heap.size 82 q.l lg lc ∧ w'.ownsRow w1.heap.size 57 15 (.slice (some ⟨gb', 0, none⟩) (k + 1) cb') (k + 1) (hs.flatMap Cells.cells ++ [(SeatH.mk ⟨st, sh, sd, sp, ⟨⟨eu, es, eh, ea⟩, en⟩, ⟨⟨fu, fs, fh, fa⟩, fn⟩⟩ (some ⟨lg, 0, none⟩) xn lc)].flatMap Cells.cells)) (.slice (some ⟨gb', 0, none⟩) (k + 1) cb') rfl (.inr (by simp)) (fun w' h => by have h1 := blk_cell h 2; have h2 := blk_frozen h 2; simp [go_sem, h1, h2]) (fun w' h => ⟨⟨h.1.2, h.2⟩, h.1.1⟩) (stays_and (fun w1 w2 hw h b => h.below b) (fun w1 w2 hc h b => own_heap h fun t e => b.block t (h.lt t e).2)) (fun w1 w2 hw h => ⟨h.1.heap (hw lg h.1.base.2 (by omega)), own_heap h.2 fun t e => hw t (h.2.lt t e).2 (by have e1 : gb' = t := Option.some.inj e; omega)⟩) ?_
      simp only [Act.put]
      refine wpO_nil ?_
      rintro w6 b6 ⟨⟨h1, h2⟩, h3⟩
      have HO := Lib.hid h3
      have hs6 := b6.size
      have HN : Hid (RowS w6 w1.heap.size (some ⟨gb', 0, none⟩) (k + 1) cb' (hs ++ [SeatH.mk ⟨st, sh, sd, sp, ⟨⟨eu, es, eh, ea⟩, en⟩, ⟨⟨fu, fs, fh, fa⟩, fn⟩⟩ (some ⟨lg, 0, none⟩) xn lc]) (ss.take (k + 1))) := by
        have ht : ss.take (k + 1) = ss.take k ++ [q] := by rw [List.take_add_one, HQ2.out]; rfl
        show RowS _ _ _ _ _ _ _
        rw [ht]
        refine hR1.out.next _ q HX.out (.inr ⟨lg, rfl, hxl.symm, h1⟩) hzr1 (fun j y hy t ht => b6.block t (hR1.out.foot (.inr ⟨j, y, hy, ht⟩)).2 ?_) (by rw [List.flatMap_append]; exact h2)
        have h5 := (hR1.out.foot (.inr ⟨j, y, hy, ht⟩)).1
        have h6 := hR1.out.apart.front j y hy t ht
        simp
        exact ⟨by omega, h6⟩
      have HB6 : Hid (GrownS w1 w6 (fun t => t = og)) := ⟨b6.os.trans hB1.out.os, b6.tape.trans hB1.out.tape, b6.output.trans hB1.out.output, Nat.le_trans hB1.out.size b6.size, fun t ht hne => (b6.block t (Nat.lt_of_lt_of_le ht hB1.out.size) (by simp; exact ⟨hne, hbA t ht⟩)).trans (hB1.out.block t ht hne)⟩
      clear h1 h2 h3 b6 HE HX HQ2 hS0 rX hO1 hR1 hB1 KW1 X1 hfoot hbA
      go_wp2
      go_roundw
      case rel => exact ⟨k + 1, some ⟨gb', 0, none⟩, cb', _, by omega, by go_num, HO.out, HN.out, HB6.out, by omega⟩
      case measure => simp [intOf]; omega
    · obtain rfl : k = n := by omega
      have hlt' : ¬ (k : Int) < (k : Int) := by omega
      have R1 := Lib.hid ((hB.out.block _ lR (by omega)).trans RR.out)
      have KW2 := Lib.hid KW
      have HI : Hid (HeldI wr W0.heap.size ⟨some ⟨gm, 0, none⟩, nm, cb, A', k, c', hs⟩ zs ss) := ⟨MM.out.heap (fun t e => hB.out.block t (by have e1 : gm = t := Option.some.inj e; omega) (by have e1 : gm = t := Option.some.inj e; omega)), by
        have h9 := hR.out.held.mono (base' := W0.heap.size) (by omega)
        rw [List.take_of_length_le (by rw [hlen]; exact Nat.le_refl _)] at h9
        exact h9, fun t e1 e2 => by
        have e3 : gm = t := Option.some.inj e1
        have := (hR.out.foot e2).1
        omega⟩
      have hO2 := hO
      clear hR hO hB KW
      go_wp2_with (first | (refine wpList_load_row rfl 37 _ rfl og rfl 37 _ (0, 0) _ hO2.out Tryz.underlying37 rfl (by kernel_rfl) ?_) | (refine wpList_store_row rfl 37 _ _ rfl (w.heap.size + 1) #[.slice (some ⟨gm, 0, none⟩) nm cb, .int .i64 s, .slice A' k c'] rfl rfl 37 _ R1.out (by kernel_rfl) rfl (by simp [Value.oneCell']) ?_))
      exact row_ret (r := w.heap.size + 1) (cs := #[.slice (some ⟨gm, 0, none⟩) nm cb, .int .i64 s, .slice A' k c']) rfl rfl (setRow_heap _ _ _ _ _ _ R1.out) Tryz.underlying37 rfl (by kernel_rfl) rfl ⟨⟨some ⟨gm, 0, none⟩, nm, cb, A', k, c', hs⟩, rfl, rfl, rfl, (HI.out.heap (fun t e => setRow_other _ _ _ _ (by have := (HI.out.foot e).1; omega)) (Nat.le_of_eq (size_setRow _ _ _).symm)).mono (by omega), below_setRow KW2.out (by omega) _⟩

set_option maxRecDepth 100000 in
set_option maxHeartbeats 8000000 in
theorem copiedInn_any (M : Option Addr) (nm cm : Nat) (zs : List Int) (s : Int) (A : Option Addr) (n cap : Nat) (ss : List SeatL) (w : World) (h : InnO w w.heap.size M nm A n zs ss) (hMz : M = none → cm = 0) (hnm : nm ≤ 1048576) (hn : n ≤ 1048576) (hl : ∀ q ∈ ss, q.l.length ≤ 1048576) :
    Calls Tryz.prog 23 #[.agg #[.slice M nm cm, .int .i64 s, .slice A n cap]] w fun e w' => ∃ i : InnH, e = .returned (i.val s) ∧ i.mn = nm ∧ i.n = n ∧ HeldI w' w.heap.size i zs ss ∧ Below w.heap.size w w' := by
  have E := Lib.hid h
  have cW : Hid (∀ (w' : World), InnO w' w'.heap.size M nm A n zs ss → Calls Tryz.prog 44 #[.agg #[.slice M nm cm, .int .i64 s], .slice A n cap] w' fun e w'' => ∃ i : InnH, e = .returned (i.val s) ∧ i.mn = nm ∧ i.n = n ∧ HeldI w'' w'.heap.size i zs ss ∧ Below w'.heap.size w' w'') := fun w' hE => innWith_any M nm cm zs s A n cap ss w' hE hMz hnm hn hl
  clear h hl
  obtain ⟨W0, hW0⟩ : ∃ W, (w.alloc (.cells #[.slice M nm cm, .int .i64 s, .slice A n cap] 37)).alloc (.cells #[.slice none 0 0, .int .i64 0, .slice none 0 0] 37) = W := ⟨_, rfl⟩
  have K0 : Hid (Below w.heap.size w W0) := by rw [← hW0]; exact ((Below.refl _ w).alloc (Nat.le_refl _) _).alloc (by simp; try omega) _
  have Q0 : Hid (W0.heap[w.heap.size]? = some (.cells #[.slice M nm cm, .int .i64 s, .slice A n cap] 37)) := by rw [← hW0]; exact heap2a w _ _
  have R0 : Hid (W0.heap[w.heap.size + 1]? = some (.cells #[.slice none 0 0, .int .i64 0, .slice none 0 0] 37)) := by rw [← hW0]; exact heap2b w _ _
  go_enter Tryz.func23, Tryz.ntmps23
  obtain ⟨⟨a0, a1, a2⟩, _⟩ := blk3 Q0.out
  go_wp2_with fail
  clear a0 a1 a2
  have lR := blk_in R0.out
  refine (cW.out _ ((E.out.below K0.out).mono K0.out.size)).mono ?_
  rintro e w1 ⟨⟨iM, im, ic, iA, il, iC, ih⟩, rfl, hm1, hm2, HI, hb⟩
  obtain rfl : nm = im := hm1.symm
  obtain rfl : n = il := hm2.symm
  have HH := Lib.hid HI
  have hW1 : w.heap.size + 2 ≤ W0.heap.size := by rw [← hW0]; simp
  clear HI hW0
  have Q1 := Lib.hid (blk_on hb Q0.out)
  have R1 := Lib.hid (blk_on hb R0.out)
  have K1 := Lib.hid (K0.out.trans (hb.mono K0.out.size))
  clear hb Q0 R0 K0
  go_wp2_with (refine wpList_store_row rfl 37 _ _ rfl (w.heap.size + 1) #[.slice iM nm ic, .int .i64 s, .slice iA n iC] rfl rfl 37 _ R1.out (by kernel_rfl) rfl (by simp [Value.oneCell']) ?_)
  exact row_ret (r := w.heap.size + 1) (cs := #[.slice iM nm ic, .int .i64 s, .slice iA n iC]) rfl rfl (setRow_heap _ _ _ _ _ _ R1.out) Tryz.underlying37 rfl (by kernel_rfl) rfl ⟨(InnH.mk iM nm ic iA n iC ih), rfl, rfl, rfl, (HH.out.heap (fun t e => setRow_other _ _ _ _ (by have := (HH.out.foot e).1; omega)) (Nat.le_of_eq (size_setRow _ _ _).symm)).mono (by omega), below_setRow K1.out (by omega) _⟩

end Go.Proofs.YtioogmeghmeelaaGreatDoor.Tx

/-
  What IsDraw, NextDraw and AllUnlike of the program answer. Condition: a list has at most 1048576 numbers.
-/
import Derived.Test.YtdpdbidjbidmaaaDraw2
import Derived.Test.YtdpdbidjbidmaaaSort2
import Derived.Test.YtdpdbidjbidmaaaNeigh
import Derived.Test.YtdpdbidjbidmaaaRangeB
import Derived.Test.YtdpdbidjbidmaaaImpl2a
namespace Go.Proofs.Ytdpdbidjbidmaaa.Tx
open Go.RowKit Go.Shelf
open Go.Lib (compareInt)
open Go.Sort (Holds PermIn SortedIn)

attribute [local go_sem] Oper.semAt_some


theorem pairs_walk (n : Nat) (hn : 1 ≤ n) (A : Option Addr) (len cap : Nat) (zs : List Int) (hlen : len ≤ 1048576) (w : World) (hS : Nums w w.heap.size A len zs) :
    Walks n Try.prog 67 #[.slice A len cap] (fun p : Int × Int => #[.int .i64 p.1, .int .i64 p.2]) (fun p => !decide (p.1 = p.2)) (apartTo zs len) (¬ apartTo zs len) w := fun l St W hb hY =>
  neighbours_in n hn l A len cap zs hlen St W (fun q x y => (hY q (x, y)).mono fun e W' ⟨he, h⟩ => ⟨he, by
    by_cases hxy : x = y
    · exact .inr ⟨hxy, by simpa [hxy] using h⟩
    · exact .inl ⟨hxy, by simpa [hxy] using h⟩⟩) ((hS.below hb).mono hb.size)

theorem sorted_le {d : Array Int} {n : Nat} (h : SortedIn (ltOf compareInt) 0 n d) (hn : d.size = n) {i j : Nat} (hij : i < j) (hj : j < n) : d.toList[i]?.getD 0 ≤ d.toList[j]?.getD 0 := by
  have h1 := h i j (Nat.zero_le _) hij hj
  rw [lt_iff, decide_eq_false_iff_not] at h1
  rw [Array.getElem?_toList, Array.getElem?_toList, Array.getElem?_eq_getElem (by omega), Array.getElem?_eq_getElem (by omega)]
  simp only [Option.getD_some]
  rw [getElem!_pos _ _ (by omega), getElem!_pos _ _ (by omega)] at h1
  omega

theorem nodup_getD {l : List Int} : l.Nodup ↔ ∀ i j, i < j → j < l.length → l[i]?.getD 0 ≠ l[j]?.getD 0 := by
  rw [List.nodup_iff_pairwise_ne, List.pairwise_iff_getElem]
  constructor
  · intro h i j hij hj
    rw [List.getElem?_eq_getElem (by omega), List.getElem?_eq_getElem hj]
    exact h i j (by omega) hj hij
  · intro h i j hi hj hij
    have := h i j hij hj
    rw [List.getElem?_eq_getElem hi, List.getElem?_eq_getElem hj] at this
    exact this

theorem apart_iff {d : Array Int} {n : Nat} (h : SortedIn (ltOf compareInt) 0 n d) (hn : d.size = n) : apartTo d.toList n ↔ d.toList.Nodup := by
  have hl : d.toList.length = n := by simpa using hn
  rw [nodup_getD]
  constructor
  · intro ha i j hij hj
    have h1 := ha i (by omega)
    have h2 : d.toList[i]?.getD 0 ≤ d.toList[i + 1]?.getD 0 := sorted_le h hn (by omega) (by omega)
    by_cases e : j = i + 1
    · rw [e]; exact h1
    · have h3 : d.toList[i + 1]?.getD 0 ≤ d.toList[j]?.getD 0 := sorted_le h hn (by omega) (by omega)
      omega
  · intro ha j hj
    exact ha j (j + 1) (by omega) (by omega)

set_option maxRecDepth 100000 in
set_option maxHeartbeats 2000000 in
theorem AllUnlike_in (A : Option Addr) (n cap : Nat) (zs : List Int) (w : World) (h : Nums w w.heap.size A n zs) (hn : n ≤ 1048576) :
    CallsIn Fence.wide 4 Try.prog 62 #[.slice A n cap] w fun e w' => e = .returned (.bool (unlikeB zs)) ∧ Below w.heap.size w w' := by
  have bR := Boxed.new w 4 (.bool false)
  have hB0 : Below w.heap.size w (w.alloc (.cells #[.bool false] 4)) := (Below.refl _ w).alloc (Nat.le_refl _) _
  have hN0 : Nums (w.alloc (.cells #[.bool false] 4)) (w.alloc (.cells #[.bool false] 4)).heap.size A n zs := (h.below hB0).mono hB0.size
  have hd := callsIn_wide (n := 3) |>.2 (drawsOf_any A n cap zs _ hN0 hn)
  have HL := Lib.hid h.1
  clear hN0 h
  refine callsIn_of_wp_marks Try.func62 rfl trivial ?_ rfl
  simp only [Try.ntmps62, List.size_toArray, List.length_cons, List.length_nil, Nat.reduceAdd, Nat.reduceSub, Array.replicate_succ, Array.replicate_zero, List.push_toArray, List.append_toArray, List.nil_append, List.cons_append]
  gi_wp2_with (refine ⟨trivial, ?_⟩; gi_at_call 64; refine hd.mono ?_; rintro e w1 ⟨rfl, hrow, hb1⟩)
  rw [World.size_alloc] at hrow hb1
  have hz : zs.toArray.size = n := by simpa using HL.out
  have hH : Holds (Value.int .i64) w1 (w.heap.size + 1) 0 zs.toArray := fun j hj => by
    have hj' : j < n := by rw [← hz]; exact hj
    refine ⟨?_, by rw [Nat.zero_add]; exact hrow.frozen j⟩
    have hl : j < zs.length := by simpa using hj
    rw [Nat.zero_add, hrow.cell hj', getElem!_pos zs.toArray j hj, List.getElem?_eq_getElem hl]
    simp
  have hs := callsIn_wide (n := 3) |>.2 (SortFunc_any (w.heap.size + 1) n zs.toArray w1 hH hrow.lt (by rw [hz]; exact hn))
  rw [hz] at hs
  have HH := Lib.hid hH
  have HB1 := Lib.hid hb1
  have hlt1 := hrow.lt
  clear hrow hH hd hb1
  gi_wp2_with (refine ⟨trivial, ?_⟩; gi_at_call 65; refine hs.mono ?_; rintro e w2 ⟨rfl, d', m, os, hp, hso, hw2⟩; have HW := Lib.hid hw2; clear hw2)
  clear hs
  have hsz : d'.size = n := hp.1.trans hz
  have hb2 : Below (w.heap.size + 1) w1 w2 := by
    rw [HW.out]
    unfold sortWorld
    have h1 : Below (w.heap.size + 1) w1 (Go.Sort.putRow (Value.int .i64) (Go.Sort.ahead w1 m) (w.heap.size + 1) 0 d') := Go.Lib.below_putRow (Below.refl _ _) (Nat.le_refl _)
    exact ⟨h1.os, h1.tape, h1.output, by have := h1.size; simp [Go.Sort.grow] at this ⊢, fun k hk => (Go.Sort.heap_grow_old _ _ (by have := h1.size; omega)).trans (h1.block k hk)⟩
  have hN2 : Nums w2 w2.heap.size (some ⟨w.heap.size + 1, 0, none⟩) n d'.toList := by
    have hlt2 : w.heap.size + 1 < w2.heap.size := Nat.lt_of_lt_of_le hlt1 hb2.size
    refine ⟨by simpa using hsz, fun _ => ⟨w.heap.size + 1, 0, rfl, hlt2, fun j hj => ?_⟩⟩
    have h0 := Go.Sort.holds_putRow (Value.int .i64) (Go.Sort.ahead w1 m) (w.heap.size + 1) 0 zs.toArray d' (Go.Sort.holds_ahead _ _ _ _ _ _ HH.out) hp.1 j (by omega)
    rw [HW.out]
    unfold sortWorld
    rw [Go.Sort.cell?_grow _ _ _ (by have := World.block_lt_of_cell? _ _ h0.1; exact this), h0.1, Array.getElem?_toList, Array.getElem?_eq_getElem (by omega), getElem!_pos _ _ (by omega)]
    rfl
  have hiff : apartTo d'.toList n ↔ zs.Nodup := by
    rw [apart_iff hso hsz]
    have hpp := hp.2.2
    rw [Array.extract_eq_self_of_le (by omega), Array.extract_eq_self_of_le (by omega)] at hpp
    exact hpp.nodup_iff
  have HI := Lib.hid hiff
  have bR2 : Boxed w2 w.heap.size 4 (.bool false) := (hb2.block _ (by omega)).trans ((HB1.out.block _ (by omega)).trans bR)
  have hB2 : Below w.heap.size w w2 := hB0.trans ((HB1.out.mono (by omega)).trans (hb2.mono (by omega)))
  clear hiff hp hso hb2 hB0 bR
  refine range_bound (by decide) (gf := 67) (bd := #[.slice (some ⟨w.heap.size + 1, 0, none⟩) n n]) rfl (enters_of Try.func67 (by kernel_rfl) rfl) (fun _ => rfl) (pairs_walk 3 (by decide) _ n n d'.toList hn w2 hN2)
    (fun p => { tmps := #[.slice A n cap, undef, .pointer (some ⟨w.heap.size, 0, none⟩), .slice (some ⟨w.heap.size + 1, 0, none⟩) n n, .int .i64 p.1, .int .i64 p.2, .slice A n cap, .slice (some ⟨w.heap.size + 1, 0, none⟩) n n, .slice (some ⟨w.heap.size + 1, 0, none⟩) n n, .tuple #[], .slice (some ⟨w.heap.size + 1, 0, none⟩) n n, .func (.func 67) #[.slice (some ⟨w.heap.size + 1, 0, none⟩) n n] #[], .int .i64 p.1, .int .i64 p.2, undef, undef, undef], defers := [] }) w.heap.size (.bool false) bR2.lt ?assign ?body ?done ?stop
  case assign =>
    intro l x W K hK
    gi_wp2
    exact hK
  case body =>
    rintro l ⟨x, y⟩ W hb
    have b3 : Boxed W w.heap.size 4 (.bool false) := (hb.block _ bR2.lt).trans bR2
    have hc := b3.cell
    have hf := b3.frozen
    by_cases hxy : x = y
    · subst hxy
      gi_wp2
      exact ⟨by simp, rfl⟩
    · have hne : (x == y) = false := by rw [beq_eq_false_iff_ne]; exact hxy
      have HX := Lib.hid hxy
      clear hxy
      gi_wp2
      exact ⟨by simpa using HX.out, rfl⟩
  case done =>
    rintro D W hD hS hB hK
    have b3 : Boxed W w.heap.size 4 (.bool false) := (hB.block _ bR2.lt).trans bR2
    have hc := b3.cell
    have hf := b3.frozen
    have HU : Hid (unlikeB zs = true) := decide_eq_true (HI.out.1 hS)
    clear hS
    gi_wp2
    have hK' := (KeepsOthers.setCell W ⟨w.heap.size, 0, none⟩ (.bool true)).same D _ hK rfl
    refine ⟨by simp, .inl ⟨_, _, rfl, run_takeDeferred hK', ?_⟩⟩
    have hc5 := cell_kept (World.cell?_setCell_same' W ⟨w.heap.size, 0, none⟩ (.bool true) (by rw [hc]; rfl)) (grownBy_putObj' _ D (.deferred none)) (fun r e => by cases e; exact ⟨_, hK', rfl⟩)
    have hB3 : Below w.heap.size w W := hB2.trans (hB.mono hB2.size)
    refine ⟨.bool true, ?_, by rw [HU.out], (hB3.setCell (p := ⟨w.heap.size, 0, none⟩) (Nat.le_refl _) _).trans (belowK_b (w := w) (Nat.le_refl _) _ D _ _ (by have := hB2.size; omega) hK' rfl rfl)⟩
    simp [results, Try.f62, go_sem, hc5]
  case stop =>
    rintro D W hD hSx hB hK
    have b3 : Boxed W w.heap.size 4 (.bool false) := (hB.block _ bR2.lt).trans (bR2.set _)
    have hc := b3.cell
    have HU : Hid (unlikeB zs = false) := decide_eq_false (fun h => hSx (HI.out.2 h))
    clear hSx
    gi_wp2
    refine ⟨by simp, .inl ⟨_, _, rfl, run_takeDeferred hK, ?_⟩⟩
    have hc5 := cell_kept hc (grownBy_putObj' _ D (.deferred none)) (fun r e => by cases e; exact ⟨_, hK, rfl⟩)
    have hB3 : Below w.heap.size w W := (hB2.setCell (p := ⟨w.heap.size, 0, none⟩) (Nat.le_refl _) _).trans (hB.mono hB2.size)
    refine ⟨.bool false, ?_, by rw [HU.out], hB3.trans (belowK_b (w := w) (Nat.le_refl _) W D _ _ (by have := hB2.size; omega) hK rfl rfl)⟩
    simp [results, Try.f62, go_sem, hc5]

theorem AllUnlike_impl (A : Option Addr) (n cap : Nat) (zs : List Int) (w : World) (h : Nums w w.heap.size A n zs) (hn : n ≤ 1048576) :
    Calls Try.prog 62 #[.slice A n cap] w fun e w' => e = .returned (.bool (unlikeB zs)) ∧ Below w.heap.size w w' :=
  (callsIn_wide (n := 4)).1 (AllUnlike_in A n cap zs w h hn)

end Go.Proofs.Ytdpdbidjbidmaaa.Tx

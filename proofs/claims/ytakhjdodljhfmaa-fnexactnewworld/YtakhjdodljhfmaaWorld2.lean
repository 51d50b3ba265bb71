/-
  What NewWorld of the model answers. No conditions.
-/
import Derived.Laws.MakeOwn
import Derived.Test.YtakhjdodljhfmaaWorld
import Derived.Test.YtakhjdodljhfmaaIn
namespace Go.Proofs.Ytakhjdodljhfmaa.Tx
open Go.RowKit

/-- May a world have so many houses? -/
def nwB (h : Int) : Bool := decide (1 ≤ h) && decide (h ≤ 3)
def nwS (h : Int) : Int := if nwB h then 1 else 0
def nwN (h : Int) : Nat := if nwB h then h.toNat else 0
theorem nwN_le (h : Int) : nwN h ≤ 1048576 := by
  rw [nwN]
  split
  · rename_i e
    rw [nwB, Bool.and_eq_true, decide_eq_true_iff, decide_eq_true_iff] at e
    omega
  · omega
/-- A world in which nobody is, with so many houses; or the zero one. -/
def WorldOut (h : Int) (w : World) (e : Ending) (w' : World) : Prop := ∃ (aA aG aP aW : Option Addr) (ac ag ap aw : Nat) (is : List InnZ), e = .returned (.tuple #[.agg #[.int .i64 (nwS h), .int .i64 0, .int .i64 (nwS h), .slice aA (nwN h) ac, .slice aG 0 ag, .slice aP 0 ap, .slice aW 0 aw], .bool (nwB h)]) ∧ OutE w' w.heap.size 41 aA (nwN h) ac is ∧ (∀ z ∈ is, z.t = 0) ∧ Below w.heap.size w w'
theorem infoInnE : ∃ (i : TypeInfo) (by' : Nat), Try.prog.info? 41 = some i ∧ i.zero = some InnZ.zero.val ∧ i.size = 3 ∧ i.bytes = by' ∧ by' ≤ 200 := by
  obtain ⟨i, hi⟩ := Option.isSome_iff_exists.1 (show (Try.prog.info? 41).isSome = true by kernel_rfl)
  have h1 : (Try.prog.info? 41).map (fun i => (i.zero, i.size)) = some (some InnZ.zero.val, 3) := by kernel_rfl
  have h2 : ((Try.prog.info? 41).map (fun i => decide (i.bytes ≤ 200))) = some true := by kernel_rfl
  rw [hi] at h1 h2
  simp only [Option.map_some, Option.some.injEq, Prod.mk.injEq, decide_eq_true_eq] at h1 h2
  exact ⟨i, i.bytes, hi, h1.1, h1.2, rfl, h2⟩
theorem made_inns_cells (n : Nat) : (madeCells #[.slice none 0 0, .int .i64 0, .slice none 0 0] (n * 3)).toList = (List.replicate n InnZ.zero).flatMap Cells.cells := by
  refine List.ext_getElem? fun i => ?_
  rw [Array.getElem?_toList]
  by_cases hi : i < n * 3
  · have h1 := flat_at (l := List.replicate n InnZ.zero) (i / 3) InnZ.zero (by rw [List.getElem?_replicate, if_pos (by omega)]) (i % 3) (Nat.mod_lt _ (by decide))
    have e : i / 3 * Cells.sz InnZ + i % 3 = i := by show i / 3 * 3 + i % 3 = i; omega
    rw [e] at h1
    rw [h1]
    have h2 : i % 3 = 0 ∨ i % 3 = 1 ∨ i % 3 = 2 := by omega
    rcases h2 with h2 | h2 | h2 <;> simp [madeCells, hi, h2] <;> rfl
  · rw [Array.getElem?_eq_none (by rw [size_madeCells]; omega), List.getElem?_eq_none (by rw [flat_len, List.length_replicate]; show n * 3 ≤ i; omega)]
theorem make_inns (n : Nat) (k : Int) (hk : k = (n : Int)) (hn : n ≤ 1000) (w : World) : (Instr.makeSlice 22 (.int .i64 k) (.int .i64 k)).run Try.prog w = .ok (.slice (some ⟨w.heap.size, 0, none⟩) n n) (w.alloc (.cells (madeCells #[.slice none 0 0, .int .i64 0, .slice none 0 0] (n * 3)) 41)) := by
  obtain ⟨i, by0, hi, hz0, hz1, hz2, hby⟩ := infoInnE
  subst hk
  have hb : (i.bytes : Int) * (n : Int) ≤ 281474976710656 := by
    rw [hz2]
    have : by0 * n ≤ 200 * 1000 := Nat.mul_le_mul hby hn
    omega
  have := run_make (P := Try.prog) w 22 41 i _ Try.underlying22 hi hz0 .i64 .i64 n n (by omega) (Int.le_refl _) hb (by omega)
  have hzc : InnZ.zero.val.cells = #[.slice none 0 0, .int .i64 0, .slice none 0 0] := rfl
  rw [hz1, hzc] at this
  simpa using this
theorem made_inns (n : Nat) (hn : n ≤ 1000) (w : World) : MadeE (w.alloc (.cells (madeCells #[.slice none 0 0, .int .i64 0, .slice none 0 0] (n * 3)) 41)) w.heap.size 41 (List.replicate n InnZ.zero) w.heap.size n := by
  have hl : ((List.replicate n InnZ.zero).flatMap Cells.cells).length = n * 3 := by rw [flat_len, List.length_replicate]; rfl
  refine ⟨⟨by rw [flat_len], .inr ⟨w.heap.size, n, _, by rw [List.length_replicate], Nat.le_refl _, heap1 w _, by rw [List.length_replicate]; exact Nat.le_refl _, by unfold maxLen; omega, by rw [size_madeCells]; rfl, ?_⟩⟩⟩
  rw [made_inns_cells, List.length_replicate]
  exact List.take_of_length_le (by rw [hl]; exact Nat.le_refl _)
set_option maxRecDepth 100000 in
set_option maxHeartbeats 8000000 in
theorem NewWorld_spec (h : Int) (w : World) : Calls Try.prog 4 #[.int .i64 h] w (WorldOut h w) := by
  obtain ⟨W0, hW0⟩ : ∃ W, w.alloc (.cells #[.int .i64 0, .int .i64 0, .int .i64 0, .slice none 0 0, .slice none 0 0, .slice none 0 0, .slice none 0 0] 27) = W := ⟨_, rfl⟩
  have K0 : Hid (Below w.heap.size w W0) := by rw [← hW0]; exact (Below.refl _ w).alloc (Nat.le_refl _) _
  have R0 : Hid (W0.heap[w.heap.size]? = some (.cells #[.int .i64 0, .int .i64 0, .int .i64 0, .slice none 0 0, .slice none 0 0, .slice none 0 0, .slice none 0 0] 27)) := by rw [← hW0]; exact heap1 w _
  have zW0 : w.heap.size < W0.heap.size := by rw [← hW0]; simp
  have ci := l1In_any h 1 3 W0
  have HB : Hid (nwB h = (decide (1 ≤ h) && decide (h ≤ 3))) := rfl
  obtain ⟨b, hb'⟩ : ∃ b, (decide (1 ≤ h) && decide (h ≤ 3)) = b := ⟨_, rfl⟩
  rw [hb'] at ci
  rw [hb'] at HB
  go_enter Try.func4, Try.ntmps4
  go_wp2_with fail
  clear hW0
  refine ci.mono ?_
  rintro e w1 ⟨rfl, rfl⟩
  clear ci
  cases b with
  | false =>
    go_wp2_with (refine wpList_store_row rfl 27 _ _ rfl (w.heap.size) #[.int .i64 0, .int .i64 0, .int .i64 0, .slice none 0 0, .slice none 0 0, .slice none 0 0, .slice none 0 0] rfl rfl 27 _ R0.out (by kernel_rfl) rfl (by simp [Value.oneCell']) ?_)
    have e1 : nwS h = 0 := by rw [nwS, HB.out]; rfl
    have e2 : nwN h = 0 := by rw [nwN, HB.out]; rfl
    exact row_ret2 (r := w.heap.size) (cs := #[.int .i64 0, .int .i64 0, .int .i64 0, .slice none 0 0, .slice none 0 0, .slice none 0 0, .slice none 0 0]) rfl rfl rfl (setRow_heap _ _ _ _ _ _ R0.out) Try.underlying27 rfl (by kernel_rfl) rfl ⟨none, none, none, none, 0, 0, 0, 0, [], by rw [e1, e2, HB.out]; rfl, by rw [e2]; exact .inl ⟨rfl, rfl, rfl, rfl⟩, (fun z hz => by cases hz), below_setRow K0.out (by omega) _⟩
  | true =>
    rw [Bool.and_eq_true, decide_eq_true_iff, decide_eq_true_iff] at hb'
    obtain ⟨n, rfl⟩ := Int.eq_ofNat_of_zero_le (show 0 ≤ h by omega)
    have hmk := make_inns n (n : Int) rfl (by omega) W0
    have e1 : nwS (n : Int) = 1 := by rw [nwS, HB.out]; rfl
    have e2 : nwN (n : Int) = n := by rw [nwN, HB.out]; simp
    have MM := made_inns n (by omega) W0
    obtain ⟨V1, hV1⟩ : ∃ V, W0.alloc (.cells (madeCells #[.slice none 0 0, .int .i64 0, .slice none 0 0] (n * 3)) 41) = V := ⟨_, rfl⟩
    rw [hV1] at hmk MM
    have HM := Lib.hid MM
    have R1 : Hid (V1.heap[w.heap.size]? = some (.cells #[.int .i64 0, .int .i64 0, .int .i64 0, .slice none 0 0, .slice none 0 0, .slice none 0 0, .slice none 0 0] 27)) := by rw [← hV1]; exact alloc_blk R0.out
    have K1 : Hid (Below w.heap.size w V1) := by rw [← hV1]; exact K0.out.alloc (by omega) _
    clear MM R0 K0
    go_wp2_with (refine wpList_store_row rfl 27 _ _ rfl (w.heap.size) #[.int .i64 1, .int .i64 0, .int .i64 1, .slice (some ⟨W0.heap.size, 0, none⟩) n n, .slice none 0 0, .slice none 0 0, .slice none 0 0] rfl rfl 27 _ R1.out (by kernel_rfl) rfl (by simp [Value.oneCell']) ?_)
    exact row_ret2 (r := w.heap.size) (cs := #[.int .i64 1, .int .i64 0, .int .i64 1, .slice (some ⟨W0.heap.size, 0, none⟩) n n, .slice none 0 0, .slice none 0 0, .slice none 0 0]) rfl rfl rfl (setRow_heap _ _ _ _ _ _ R1.out) Try.underlying27 rfl (by kernel_rfl) rfl ⟨some ⟨W0.heap.size, 0, none⟩, none, none, none, n, 0, 0, 0, List.replicate n .zero, by rw [e1, e2, HB.out]; rfl, by rw [e2]; exact .inr ⟨W0.heap.size, rfl, List.length_replicate.symm, (HM.out.heap (setRow_other _ _ _ _ (by omega))).mono (by omega)⟩, (fun z hz => by rw [List.eq_of_mem_replicate hz]; rfl), below_setRow K1.out (by omega) _⟩

end Go.Proofs.Ytakhjdodljhfmaa.Tx

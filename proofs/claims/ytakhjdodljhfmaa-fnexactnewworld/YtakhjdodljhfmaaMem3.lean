/-
  Lists of numbers that a call made, and what the laws' helpers over them and over memories do: szInt64S, markInt64S, heldInt64S, szMemory, toMemory, eqMemory, likeMemory, markMemory, heldMemory. Condition: a list has at most 1048576 numbers.
  What the laws' helpers over memories do: toMemory, eqMemory, likeMemory, markMemory, heldMemory. Condition: the list has at most 1048576 numbers.
  What the model's functions on memories answer: SeenIn, MemoryOk, NewMemory, MayHear, Noted. Condition: the list has at most 1048576 numbers.
-/
import Derived.WalkKit
import Derived.Deep.OwnRows
import Derived.Laws.OwnMore
import Derived.Lib.Hide
import Derived.Test.YtakhjdodljhfmaaNums
import Derived.Test.YtakhjdodljhfmaaBlk
import Derived.Test.YtakhjdodljhfmaaOwn
import Derived.Test.YtakhjdodljhfmaaMem0
import Derived.Test.YtakhjdodljhfmaaTime
import Derived.Test.YtakhjdodljhfmaaDraw2
import Derived.Test.YtakhjdodljhfmaaRegionO
namespace Go.Proofs.Ytakhjdodljhfmaa.Tx
open Go.RowKit

def blkN : Option Addr → Option Nat
  | some a => some a.block
  | none => none
theorem ownBlock_eq (A : Option Addr) (n cap : Nat) : (Value.slice A n cap).ownBlock = blkN A := by cases A <;> rfl
/-- A list of numbers of the call's own (or nil), in a block from base on. -/
structure OwnN (w : World) (base : Nat) (zs : List Int) (A : Option Addr) (n cap : Nat) : Prop where
  own : w.ownsRow base 2 1 (.slice A n cap) n (zs.map (Value.int .i64))
section
variable {w w' : World} {base : Nat} {zs : List Int} {A : Option Addr} {n cap : Nat}
theorem OwnN.len (h : OwnN w base zs A n cap) : zs.length = n := by have := h.own.1; simpa using this
theorem OwnN.lt (h : OwnN w base zs A n cap) {g : Nat} (hg : blkN A = some g) : base ≤ g ∧ g < w.heap.size := h.own.lt g ((ownBlock_eq A n cap).trans hg)
theorem OwnN.kept {row : Option Nat} (h : OwnN w base zs A n cap) (hg : w.grownBy w' row) (hne : ∀ g, blkN A = some g → row ≠ some g) : OwnN w' base zs A n cap := by
  refine ⟨h.own.kept hg ?_⟩
  rw [ownBlock_eq]
  cases e : blkN A
  · exact .inl rfl
  · exact .inr (fun h => hne _ e h.symm)
theorem OwnN.on (h : OwnN w base zs A n cap) (b : Below w.heap.size w w') : OwnN w' base zs A n cap := h.kept (row := none) ⟨b.os, b.tape, b.output, b.size, fun i hi _ => b.block i hi⟩ (fun _ _ e => by cases e)
theorem OwnN.alloc (h : OwnN w base zs A n cap) (o : Obj) : OwnN (w.alloc o) base zs A n cap := ⟨h.own.alloc o⟩
theorem OwnN.mono {base' : Nat} (h : OwnN w base zs A n cap) (hb : base' ≤ base) : OwnN w base' zs A n cap := by
  refine ⟨⟨h.own.1, ?_⟩⟩
  rcases h.own.2 with h2 | ⟨g, cap, cur, hv, hg, r⟩
  · exact .inl h2
  · exact .inr ⟨g, cap, cur, hv, Nat.le_trans hb hg, r⟩
theorem OwnN.form (h : OwnN w base zs A n cap) : (A = none ∧ n = 0 ∧ cap = 0) ∨ ∃ g, A = some ⟨g, 0, none⟩ := by
  rcases h.own.2 with ⟨e, h0⟩ | ⟨g, c, cur, e, _⟩
  · cases e; exact .inl ⟨rfl, rfl, rfl⟩
  · cases e; exact .inr ⟨g, rfl⟩
theorem OwnN.nums (h : OwnN w base zs A n cap) : Nums w w.heap.size A n zs := by
  refine ⟨h.len, fun hn => ?_⟩
  rcases h.form with ⟨_, h0, _⟩ | ⟨g, rfl⟩
  · omega
  · refine ⟨g, 0, rfl, (h.lt rfl).2, fun j hj => ?_⟩
    have hl := h.len
    rw [Nat.zero_add, h.own.cellAt j (by omega), List.getElem?_map, List.getElem?_eq_getElem (by omega)]
    rfl
theorem ownN_nil (w : World) (base : Nat) : OwnN w base [] none 0 0 := ⟨World.ownsRow_nil w base _ _⟩
theorem ownN_row {g : Nat} (h : w.rowIs g 2 n (fun i => .int .i64 (zs[i]?.getD 0))) (hl : zs.length = n) (hb : base ≤ g) (hn : n ≤ 1048576) : OwnN w base zs (some ⟨g, 0, none⟩) n n := by
  obtain ⟨c, hc, hs, hf⟩ := h
  refine ⟨⟨by simp [hl], .inr ⟨g, n, c, rfl, hb, hc, Nat.le_refl _, by unfold maxLen; omega, by omega, ?_⟩⟩⟩
  rw [List.take_of_length_le (by simp; omega)]
  refine List.ext_getElem? fun i => ?_
  rw [List.getElem?_map, Array.getElem?_toList]
  by_cases hi : i < n
  · rw [hf i hi]; simp [List.getElem?_eq_getElem (show i < zs.length by omega)]
  · rw [List.getElem?_eq_none (by omega), Array.getElem?_eq_none (by omega)]; rfl
end
/-- What a callee with no memory to write does to a list below it. -/
theorem Nums.on {w w' : World} {A : Option Addr} {n : Nat} {zs : List Int} (h : Nums w w.heap.size A n zs) (b : Below w.heap.size w w') : Nums w' w'.heap.size A n zs := (h.below b).mono b.size

theorem only2 {a b c : World} {row : Option Nat} (h : a.grownBy b row) (k : b.grownBy c row) : a.grownBy c row :=
  ⟨k.os.trans h.os, k.tape.trans h.tape, k.output.trans h.output, Nat.le_trans h.size k.size, fun i hi hne => (k.block i (Nat.lt_of_lt_of_le hi h.size) hne).trans (h.block i hi hne)⟩

/-- k, k + 1, .. -/
def marksL (k n : Nat) : List Int := (List.range n).map fun i => ((k + i : Nat) : Int)
theorem marksL_length (k n : Nat) : (marksL k n).length = n := by simp [marksL]
theorem marksL_get {k n i : Nat} (hi : i < n) : (marksL k n)[i]?.getD 0 = ((k + i : Nat) : Int) := by
  unfold marksL
  rw [List.getElem?_map, List.getElem?_range hi]; rfl
theorem marks_step {zs : List Int} {k j : Nat} (hj : j < zs.length) : ((marksL k j ++ zs.drop j).map (Value.int .i64)).set j (.int .i64 ((k + j : Nat) : Int)) = (marksL k (j + 1) ++ zs.drop (j + 1)).map (Value.int .i64) := by
  have e : (List.map (Value.int .i64) (marksL k j)).length = j := by simp [marksL_length]
  rw [List.map_append, List.set_append_right _ _ (by omega), e, Nat.sub_self, List.drop_eq_getElem_cons hj, List.map_cons, List.set_cons_zero, marksL, marksL, List.range_succ]
  simp

set_option maxHeartbeats 1000000 in
theorem markInt64S_any (A : Option Addr) (n cap : Nat) (zs : List Int) (k base : Nat) (w : World) (h : OwnN w base zs A n cap) (hn : n ≤ 1048576) (hk : k ≤ 4194304) :
    Calls Try.prog 33 #[.slice A n cap, .int .i64 k] w fun e w' => e = .returned (.int .i64 ((k + n : Nat) : Int)) ∧ OwnN w' base (marksL k n) A n cap ∧ w.grownBy w' (blkN A) := by
  have hl := h.len
  rcases h.form with ⟨rfl, rfl, rfl⟩ | ⟨g, rfl⟩
  · clear h hl
    go_enter Try.func33, Try.ntmps33
    go_wp2
    go_loopw [1, 5] (fun kk i wr => i = .int .i64 0 ∧ kk = .int .i64 k ∧ Hid (wr = w)) (fun _ _ _ => 0)
    case atStart => exact ⟨rfl, rfl, rfl⟩
    case round =>
      obtain ⟨rfl, rfl, hw⟩ := hrel
      go_wp2
      go_ret
      exact ⟨rfl, ownN_nil _ _, by rw [hw.out]; exact World.grownBy.refl _ _⟩
  · have H := Lib.hid h.own
    have HL := Lib.hid hl
    clear h hl
    go_enter Try.func33, Try.ntmps33
    go_wp2
    go_loopw [1, 5] (fun kk i wr => ∃ j : Nat, j ≤ n ∧ i = .int .i64 j ∧ kk = .int .i64 ((k + j : Nat) : Int) ∧ Hid (wr.ownsRow base 2 1 (.slice (some ⟨g, 0, none⟩) n cap) n ((marksL k j ++ zs.drop j).map (Value.int .i64))) ∧ Hid (w.grownBy wr (some g))) (fun _ i _ => n - (intOf i).toNat)
    case atStart => exact ⟨0, Nat.zero_le _, rfl, by simp, by show World.ownsRow _ _ _ _ _ _ _; simpa [marksL] using H.out, World.grownBy.refl _ _⟩
    case round =>
      obtain ⟨j, hj, rfl, rfl, ho, hg⟩ := hrel
      by_cases hlt : j < n
      · have hc : ∃ v, wr.cell? ⟨g, j, none⟩ = some v := by
          rw [ho.out.cellAt j (by omega), List.getElem?_eq_getElem (by have := ho.out.1; omega)]; exact ⟨_, rfl⟩
        obtain ⟨v, hc⟩ := hc
        have hf := ho.out.frozenAt j
        obtain ⟨m, hm⟩ : ∃ m : Nat, m = k + j := ⟨_, rfl⟩
        have HM := Lib.hid hm
        have hm1 : m ≤ 6000000 := by omega
        rw [← hm]
        clear hm
        go_wp2
        go_roundw
        case rel =>
          have h2 := ho.out.stored j (.int .i64 ((k + j : Nat) : Int))
          rw [marks_step (by rw [HL.out]; exact hlt)] at h2
          exact ⟨j + 1, by omega, by go_num, by rw [HM.out]; go_num, by rw [HM.out]; exact h2.1, by rw [HM.out]; exact only2 hg.out h2.2⟩
        case measure => simp [intOf]; omega
      · obtain rfl : j = n := by omega
        go_wp2
        go_ret
        refine ⟨rfl, ⟨?_⟩, hg.out⟩
        have := ho.out
        rwa [List.drop_eq_nil_of_le (by rw [HL.out]; exact Nat.le_refl _), List.append_nil] at this

set_option maxHeartbeats 1000000 in
theorem heldInt64S_any (A : Option Addr) (n cap : Nat) (k : Nat) (w : World) (h : Nums w w.heap.size A n (marksL k n)) (hn : n ≤ 1048576) (hk : k ≤ 4194304) :
    Calls Try.prog 37 #[.slice A n cap, .int .i64 k] w fun e w' => e = .returned (.int .i64 ((k + n : Nat) : Int)) ∧ w = w' := by
  have HC := Lib.hid h.2
  clear h
  go_enter Try.func37, Try.ntmps37
  go_wp2
  go_loopw [1, 5] (fun kk i wr => ∃ j : Nat, j ≤ n ∧ i = .int .i64 j ∧ kk = .int .i64 ((k + j : Nat) : Int) ∧ Hid (wr = w)) (fun _ i _ => n - (intOf i).toNat)
  case atStart => exact ⟨0, Nat.zero_le _, rfl, by simp, rfl⟩
  case round =>
    obtain ⟨j, hj, rfl, rfl, hw⟩ := hrel
    by_cases hlt : j < n
    · obtain ⟨b, off, rfl, hb, hc⟩ := HC.out (by omega)
      have hck := hc j hlt
      rw [marksL_get hlt, ← hw.out] at hck
      obtain ⟨m, hm⟩ : ∃ m : Nat, m = k + j := ⟨_, rfl⟩
      have HM := Lib.hid hm
      have hm1 : m ≤ 6000000 := by omega
      rw [← hm] at hck ⊢
      clear hm hc
      go_wp2
      go_roundw
      case rel => exact ⟨j + 1, by omega, by go_num, by rw [HM.out]; go_num, hw⟩
      case measure => simp [intOf]; omega
    · obtain rfl : j = n := by omega
      go_wp2
      go_ret
      exact ⟨rfl, hw.out.symm⟩

end Go.Proofs.Ytakhjdodljhfmaa.Tx
namespace Go.Proofs.Ytakhjdodljhfmaa.Tx
open Go.RowKit


set_option maxHeartbeats 1000000 in
theorem eqMemory_same (A B : Option Addr) (n ca cb : Nat) (zs : List Int) (s : Int) (w : World) (hA : Nums w w.heap.size A n zs) (hB : Nums w w.heap.size B n zs) (hn : n ≤ 1048576) :
    Calls Try.prog 44 #[.agg #[.slice A n ca, .int .i64 s], .agg #[.slice B n cb, .int .i64 s]] w fun e w' => e = .returned (.bool true) ∧ Below w.heap.size w w' := by
  obtain ⟨V, hV⟩ : ∃ V, (w.alloc (.cells #[.slice A n ca, .int .i64 s] 36)).alloc (.cells #[.slice B n cb, .int .i64 s] 36) = V := ⟨_, rfl⟩
  have K : Hid (Below w.heap.size w V) := by rw [← hV]; exact ((Below.refl _ w).alloc (Nat.le_refl _) _).alloc (by simp) _
  have B0 : Hid (V.heap[w.heap.size]? = some (.cells #[.slice A n ca, .int .i64 s] 36)) := by rw [← hV]; exact heap2a w _ _
  have C0 : Hid (V.heap[w.heap.size + 1]? = some (.cells #[.slice B n cb, .int .i64 s] 36)) := by rw [← hV]; exact heap2b w _ _
  have HA := Lib.hid (hA.on K.out)
  have HB := Lib.hid (hB.on K.out)
  clear hA hB
  obtain ⟨⟨a0, a1⟩, _⟩ := blk2 B0.out
  obtain ⟨⟨b0, b1⟩, _⟩ := blk2 C0.out
  have hcall : Calls Try.prog 54 #[.slice A n ca, .slice B n cb] V fun e w' => e = .returned (.bool true) ∧ ∃ q, w' = V.drewN q := by
    have := eqInt64S_any A B n n ca cb zs zs V HA.out HB.out hn hn
    rwa [decide_eq_true rfl] at this
  go_enter Try.func44, Try.ntmps44
  go_wp2_with fail
  clear hV
  refine hcall.mono ?_
  rintro e w1 ⟨rfl, q, hq⟩
  have a1' : w1.cell? ⟨w.heap.size, 1, none⟩ = some (.int .i64 s) := by rw [hq]; exact a1
  have b1' : w1.cell? ⟨w.heap.size + 1, 1, none⟩ = some (.int .i64 s) := by rw [hq]; exact b1
  have K1 : Hid (Below w.heap.size w w1) := by rw [hq]; exact drewN_below K.out q
  clear hq a0 a1 b0 b1 hcall
  go_wp2
  go_ret
  exact ⟨rfl, K1.out⟩


end Go.Proofs.Ytakhjdodljhfmaa.Tx
namespace Go.Proofs.Ytakhjdodljhfmaa.Tx
open Go.RowKit


theorem memB_no {zs : List Int} {s : Int} {j : Nat} (hj : j < zs.length) (h : isDrawB (zs[j]?.getD 0) = false) : memB zs s = false := by
  cases hm : memB zs s
  · rfl
  · have := (memB_true hm).1 (zs[j]?.getD 0) (by rw [List.getElem?_eq_getElem hj]; exact List.getElem_mem _)
    rw [h] at this; exact this.symm

end Go.Proofs.Ytakhjdodljhfmaa.Tx

/-
  Lists of numbers that a call made, and what the laws' helpers over them and over memories do: szInt64S, markInt64S, heldInt64S, szMemory, toMemory, eqMemory, likeMemory, markMemory, heldMemory. Condition: a list has at most 1048576 numbers.
  What the laws' helpers over memories do: toMemory, eqMemory, likeMemory, markMemory, heldMemory. Condition: the list has at most 1048576 numbers.
  What the model's functions on memories answer: SeenIn, MemoryOk, NewMemory, MayHear, Noted. Condition: the list has at most 1048576 numbers.
-/
import Derived.WalkKit
import Derived.Deep.OwnRows
import Derived.Laws.OwnMore
import Derived.Lib.Hide
import Derived.Test.YtioogmeghmeelaaGreatNums
import Derived.Test.YtioogmeghmeelaaGreatBlk
import Derived.Test.YtioogmeghmeelaaGreatOwn
import Derived.Test.YtioogmeghmeelaaGreatMem0
import Derived.Test.YtioogmeghmeelaaGreatTime
import Derived.Test.YtioogmeghmeelaaGreatDraw2
import Derived.Test.YtioogmeghmeelaaGreatRegionO
namespace Go.Proofs.YtioogmeghmeelaaGreat.Tx
open Go.RowKit

def blkN : Option Addr → Option Nat
  | some a => some a.block
  | none => none
theorem ownBlock_eq (A : Option Addr) (n cap : Nat) : (Value.slice A n cap).ownBlock = blkN A := by cases A <;> rfl
/-- A list of numbers of the call's own (or nil), in a block from base on. -/
structure OwnN (w : World) (base : Nat) (zs : List Int) (A : Option Addr) (n cap : Nat) : Prop where
  own : w.ownsRow base 2 1 (.slice A n cap) n (zs.map (Value.int .i64))
section
variable {w w' : World} {base : Nat} {zs : List Int} {A : Option Addr} {n cap : Nat}
theorem OwnN.len (h : OwnN w base zs A n cap) : zs.length = n := by have := h.own.1; simpa using this
theorem OwnN.lt (h : OwnN w base zs A n cap) {g : Nat} (hg : blkN A = some g) : base ≤ g ∧ g < w.heap.size := h.own.lt g ((ownBlock_eq A n cap).trans hg)
theorem OwnN.kept {row : Option Nat} (h : OwnN w base zs A n cap) (hg : w.grownBy w' row) (hne : ∀ g, blkN A = some g → row ≠ some g) : OwnN w' base zs A n cap := by
  refine ⟨h.own.kept hg ?_⟩
  rw [ownBlock_eq]
  cases e : blkN A
  · exact .inl rfl
  · exact .inr (fun h => hne _ e h.symm)
theorem OwnN.on (h : OwnN w base zs A n cap) (b : Below w.heap.size w w') : OwnN w' base zs A n cap := h.kept (row := none) ⟨b.os, b.tape, b.output, b.size, fun i hi _ => b.block i hi⟩ (fun _ _ e => by cases e)
theorem OwnN.alloc (h : OwnN w base zs A n cap) (o : Obj) : OwnN (w.alloc o) base zs A n cap := ⟨h.own.alloc o⟩
theorem OwnN.mono {base' : Nat} (h : OwnN w base zs A n cap) (hb : base' ≤ base) : OwnN w base' zs A n cap := by
  refine ⟨⟨h.own.1, ?_⟩⟩
  rcases h.own.2 with h2 | ⟨g, cap, cur, hv, hg, r⟩
  · exact .inl h2
  · exact .inr ⟨g, cap, cur, hv, Nat.le_trans hb hg, r⟩
theorem OwnN.form (h : OwnN w base zs A n cap) : (A = none ∧ n = 0 ∧ cap = 0) ∨ ∃ g, A = some ⟨g, 0, none⟩ := by
  rcases h.own.2 with ⟨e, h0⟩ | ⟨g, c, cur, e, _⟩
  · cases e; exact .inl ⟨rfl, rfl, rfl⟩
  · cases e; exact .inr ⟨g, rfl⟩
theorem OwnN.nums (h : OwnN w base zs A n cap) : Nums w w.heap.size A n zs := by
  refine ⟨h.len, fun hn => ?_⟩
  rcases h.form with ⟨_, h0, _⟩ | ⟨g, rfl⟩
  · omega
  · refine ⟨g, 0, rfl, (h.lt rfl).2, fun j hj => ?_⟩
    have hl := h.len
    rw [Nat.zero_add, h.own.cellAt j (by omega), List.getElem?_map, List.getElem?_eq_getElem (by omega)]
    rfl
theorem ownN_nil (w : World) (base : Nat) : OwnN w base [] none 0 0 := ⟨World.ownsRow_nil w base _ _⟩
theorem ownN_row {g : Nat} (h : w.rowIs g 2 n (fun i => .int .i64 (zs[i]?.getD 0))) (hl : zs.length = n) (hb : base ≤ g) (hn : n ≤ 1048576) : OwnN w base zs (some ⟨g, 0, none⟩) n n := by
  obtain ⟨c, hc, hs, hf⟩ := h
  refine ⟨⟨by simp [hl], .inr ⟨g, n, c, rfl, hb, hc, Nat.le_refl _, by unfold maxLen; omega, by omega, ?_⟩⟩⟩
  rw [List.take_of_length_le (by simp; omega)]
  refine List.ext_getElem? fun i => ?_
  rw [List.getElem?_map, Array.getElem?_toList]
  by_cases hi : i < n
  · rw [hf i hi]; simp [List.getElem?_eq_getElem (show i < zs.length by omega)]
  · rw [List.getElem?_eq_none (by omega), Array.getElem?_eq_none (by omega)]; rfl
end
/-- What a callee with no memory to write does to a list below it. -/
theorem Nums.on {w w' : World} {A : Option Addr} {n : Nat} {zs : List Int} (h : Nums w w.heap.size A n zs) (b : Below w.heap.size w w') : Nums w' w'.heap.size A n zs := (h.below b).mono b.size

theorem only2 {a b c : World} {row : Option Nat} (h : a.grownBy b row) (k : b.grownBy c row) : a.grownBy c row :=
  ⟨k.os.trans h.os, k.tape.trans h.tape, k.output.trans h.output, Nat.le_trans h.size k.size, fun i hi hne => (k.block i (Nat.lt_of_lt_of_le hi h.size) hne).trans (h.block i hi hne)⟩

/-- k, k + 1, .. -/
def marksL (k n : Nat) : List Int := (List.range n).map fun i => ((k + i : Nat) : Int)
theorem marksL_length (k n : Nat) : (marksL k n).length = n := by simp [marksL]
theorem marksL_get {k n i : Nat} (hi : i < n) : (marksL k n)[i]?.getD 0 = ((k + i : Nat) : Int) := by
  unfold marksL
  rw [List.getElem?_map, List.getElem?_range hi]; rfl
theorem marks_step {zs : List Int} {k j : Nat} (hj : j < zs.length) : ((marksL k j ++ zs.drop j).map (Value.int .i64)).set j (.int .i64 ((k + j : Nat) : Int)) = (marksL k (j + 1) ++ zs.drop (j + 1)).map (Value.int .i64) := by
  have e : (List.map (Value.int .i64) (marksL k j)).length = j := by simp [marksL_length]
  rw [List.map_append, List.set_append_right _ _ (by omega), e, Nat.sub_self, List.drop_eq_getElem_cons hj, List.map_cons, List.set_cons_zero, marksL, marksL, List.range_succ]
  simp

set_option maxHeartbeats 1000000 in
theorem markInt64S_any (A : Option Addr) (n cap : Nat) (zs : List Int) (k base : Nat) (w : World) (h : OwnN w base zs A n cap) (hn : n ≤ 1048576) (hk : k ≤ 4194304) :
    Calls Tryz.prog 46 #[.slice A n cap, .int .i64 k] w fun e w' => e = .returned (.int .i64 ((k + n : Nat) : Int)) ∧ OwnN w' base (marksL k n) A n cap ∧ w.grownBy w' (blkN A) := by
  have hl := h.len
  rcases h.form with ⟨rfl, rfl, rfl⟩ | ⟨g, rfl⟩
  · clear h hl
    go_enter Tryz.func46, Tryz.ntmps46
    go_wp2
    go_loopw [1, 5] (fun kk i wr => i = .int .i64 0 ∧ kk = .int .i64 k ∧ Hid (wr = w)) (fun _ _ _ => 0)
    case atStart => exact ⟨rfl, rfl, rfl⟩
    case round =>
      obtain ⟨rfl, rfl, hw⟩ := hrel
      go_wp2
      go_ret
      exact ⟨rfl, ownN_nil _ _, by rw [hw.out]; exact World.grownBy.refl _ _⟩
  · have H := Lib.hid h.own
    have HL := Lib.hid hl
    clear h hl
    go_enter Tryz.func46, Tryz.ntmps46
    go_wp2
    go_loopw [1, 5] (fun kk i wr => ∃ j : Nat, j ≤ n ∧ i = .int .i64 j ∧ kk = .int .i64 ((k + j : Nat) : Int) ∧ Hid (wr.ownsRow base 2 1 (.slice (some ⟨g, 0, none⟩) n cap) n ((marksL k j ++ zs.drop j).map (Value.int .i64))) ∧ Hid (w.grownBy wr (some g))) (fun _ i _ => n - (intOf i).toNat)
    case atStart => exact ⟨0, Nat.zero_le _, rfl, by simp, by show World.ownsRow _ _ _ _ _ _ _; simpa [marksL] using H.out, World.grownBy.refl _ _⟩
    case round =>
      obtain ⟨j, hj, rfl, rfl, ho, hg⟩ := hrel
      by_cases hlt : j < n
      · have hc : ∃ v, wr.cell? ⟨g, j, none⟩ = some v := by
          rw [ho.out.cellAt j (by omega), List.getElem?_eq_getElem (by have := ho.out.1; omega)]; exact ⟨_, rfl⟩
        obtain ⟨v, hc⟩ := hc
        have hf := ho.out.frozenAt j
        obtain ⟨m, hm⟩ : ∃ m : Nat, m = k + j := ⟨_, rfl⟩
        have HM := Lib.hid hm
        have hm1 : m ≤ 6000000 := by omega
        rw [← hm]
        clear hm
        go_wp2
        go_roundw
        case rel =>
          have h2 := ho.out.stored j (.int .i64 ((k + j : Nat) : Int))
          rw [marks_step (by rw [HL.out]; exact hlt)] at h2
          exact ⟨j + 1, by omega, by go_num, by rw [HM.out]; go_num, by rw [HM.out]; exact h2.1, by rw [HM.out]; exact only2 hg.out h2.2⟩
        case measure => simp [intOf]; omega
      · obtain rfl : j = n := by omega
        go_wp2
        go_ret
        refine ⟨rfl, ⟨?_⟩, hg.out⟩
        have := ho.out
        rwa [List.drop_eq_nil_of_le (by rw [HL.out]; exact Nat.le_refl _), List.append_nil] at this

set_option maxHeartbeats 1000000 in
theorem heldInt64S_any (A : Option Addr) (n cap : Nat) (k : Nat) (w : World) (h : Nums w w.heap.size A n (marksL k n)) (hn : n ≤ 1048576) (hk : k ≤ 4194304) :
    Calls Tryz.prog 48 #[.slice A n cap, .int .i64 k] w fun e w' => e = .returned (.int .i64 ((k + n : Nat) : Int)) ∧ w = w' := by
  have HC := Lib.hid h.2
  clear h
  go_enter Tryz.func48, Tryz.ntmps48
  go_wp2
  go_loopw [1, 5] (fun kk i wr => ∃ j : Nat, j ≤ n ∧ i = .int .i64 j ∧ kk = .int .i64 ((k + j : Nat) : Int) ∧ Hid (wr = w)) (fun _ i _ => n - (intOf i).toNat)
  case atStart => exact ⟨0, Nat.zero_le _, rfl, by simp, rfl⟩
  case round =>
    obtain ⟨j, hj, rfl, rfl, hw⟩ := hrel
    by_cases hlt : j < n
    · obtain ⟨b, off, rfl, hb, hc⟩ := HC.out (by omega)
      have hck := hc j hlt
      rw [marksL_get hlt, ← hw.out] at hck
      obtain ⟨m, hm⟩ : ∃ m : Nat, m = k + j := ⟨_, rfl⟩
      have HM := Lib.hid hm
      have hm1 : m ≤ 6000000 := by omega
      rw [← hm] at hck ⊢
      clear hm hc
      go_wp2
      go_roundw
      case rel => exact ⟨j + 1, by omega, by go_num, by rw [HM.out]; go_num, hw⟩
      case measure => simp [intOf]; omega
    · obtain rfl : j = n := by omega
      go_wp2
      go_ret
      exact ⟨rfl, hw.out.symm⟩

theorem szInt64S_any (A : Option Addr) (n cap : Nat) (w : World) (hn : n ≤ 9223372036854775807) :
    Calls Tryz.prog 28 #[.slice A n cap, .int .i64 1048576] w fun e w' => e = .returned (.int .i64 (if 1048576 < n then -1 else 1048576 - (n : Int))) ∧ w = w' := by
  by_cases hb : 1048576 < n
  · rw [if_pos hb]
    go_enter Tryz.func28, Tryz.ntmps28
    go_wp2
    go_ret
    exact ⟨rfl, rfl⟩
  · rw [if_neg hb]
    go_enter Tryz.func28, Tryz.ntmps28
    go_wp2
    go_ret
    exact ⟨rfl, rfl⟩

theorem szMemory_any (A : Option Addr) (n cap : Nat) (s : Int) (w : World) (hn : n ≤ 9223372036854775807) :
    Calls Tryz.prog 11 #[.agg #[.slice A n cap, .int .i64 s], .int .i64 1048576] w fun e w' => e = .returned (.int .i64 (if 1048576 < n then -1 else 1048576 - (n : Int))) ∧ Below w.heap.size w w' := by
  have hc := fun w' => szInt64S_any A n cap w' hn
  by_cases hb : 1048576 < n
  · rw [if_pos hb] at hc ⊢
    go_enter Tryz.func11, Tryz.ntmps11
    go_wp2_with (go_at_call 28; refine (hc _).mono ?_; rintro e w' ⟨rfl, rfl⟩)
    go_ret
    exact ⟨rfl, (Below.refl _ w).alloc (Nat.le_refl _) _⟩
  · rw [if_neg hb] at hc ⊢
    go_enter Tryz.func11, Tryz.ntmps11
    go_wp2_with (go_at_call 28; refine (hc _).mono ?_; rintro e w' ⟨rfl, rfl⟩)
    go_ret
    exact ⟨rfl, (Below.refl _ w).alloc (Nat.le_refl _) _⟩

end Go.Proofs.YtioogmeghmeelaaGreat.Tx
namespace Go.Proofs.YtioogmeghmeelaaGreat.Tx
open Go.RowKit

set_option maxRecDepth 100000 in
set_option maxHeartbeats 1000000 in
theorem toMemory_any (A : Option Addr) (n cap : Nat) (zs : List Int) (s : Int) (w : World) (h : Nums w w.heap.size A n zs) (hn : n ≤ 1048576) :
    Calls Tryz.prog 16 #[.agg #[.slice A n cap, .int .i64 s]] w fun e w' => ∃ g, e = .returned (.agg #[.slice (some ⟨g, 0, none⟩) n n, .int .i64 s]) ∧ OwnN w' w.heap.size zs (some ⟨g, 0, none⟩) n n ∧ Below w.heap.size w w' := by
  have hl := h.1
  obtain ⟨V, hV⟩ : ∃ V, ((w.alloc (.cells #[.slice A n cap, .int .i64 s] 24)).alloc (.cells #[.slice none 0 0, .int .i64 0] 29)).alloc (.cells #[.slice none 0 0, .int .i64 0] 29) = V := ⟨_, rfl⟩
  have K : Hid (Below w.heap.size w V) := by rw [← hV]; exact (((Below.refl _ w).alloc (Nat.le_refl _) _).alloc (by simp) _).alloc (by simp; omega) _
  have B0 : Hid (V.heap[w.heap.size]? = some (.cells #[.slice A n cap, .int .i64 s] 24)) := by rw [← hV]; exact alloc_blk (heap2a w _ _)
  have R0 : Hid (V.heap[w.heap.size + 1]? = some (.cells #[.slice none 0 0, .int .i64 0] 29)) := by rw [← hV]; exact alloc_blk (heap2b w _ _)
  have O0 : Hid (V.heap[w.heap.size + 2]? = some (.cells #[.slice none 0 0, .int .i64 0] 29)) := by
    rw [← hV]
    have := heap1 ((w.alloc (.cells #[.slice A n cap, .int .i64 s] 24)).alloc (.cells #[.slice none 0 0, .int .i64 0] 29)) (.cells #[.slice none 0 0, .int .i64 0] 29)
    simp only [World.size_alloc] at this
    exact this
  have sV : V.heap.size = w.heap.size + 3 := by rw [← hV]; simp
  have hS := Lib.hid (h.on K.out)
  clear h
  have HL := Lib.hid hl
  clear hl
  obtain ⟨⟨a0, a1⟩, _⟩ := blk2 B0.out
  go_enter Tryz.func16, Tryz.ntmps16
  go_wp2_with fail
  clear a0 a1 hV
  refine (toInt64S_any _ _ _ zs _ hS.out hn).mono ?_
  rintro e w1 ⟨rfl, c1⟩
  rw [sV]
  have hrow := Lib.hid c1.row
  have b := c1.bel
  rw [sV] at b hrow
  clear c1
  have B1 := Lib.hid ((b.block _ (by omega)).trans B0.out)
  have R1 := Lib.hid ((b.block _ (by omega)).trans R0.out)
  have O1 := Lib.hid ((b.block _ (by omega)).trans O0.out)
  have K1 := Lib.hid (K.out.trans (b.mono (by omega)))
  clear b B0 R0 O0 K hS
  obtain ⟨⟨a0, a1⟩, _⟩ := blk2 B1.out
  obtain ⟨⟨r0, r1⟩, p0, p1⟩ := blk2 R1.out
  obtain ⟨⟨o0, o1⟩, q0, q1⟩ := blk2 O1.out
  go_wp2
  refine row_ret (r := w.heap.size + 1) (cs := #[.slice (some ⟨w.heap.size + 3, 0, none⟩) n n, .int .i64 s]) rfl rfl (setAll_whole (vs := [.slice (some ⟨w.heap.size + 3, 0, none⟩) n n, .int .i64 s]) (setAll_away (g := w.heap.size + 2) (by omega) [.slice (some ⟨w.heap.size + 3, 0, none⟩) n n, .int .i64 s] 0 R1.out) rfl) Tryz.underlying29 rfl (by kernel_rfl) rfl
        ⟨w.heap.size + 3, rfl, ?_, setAll_below (g := w.heap.size + 1) (by omega) [.slice (some ⟨w.heap.size + 3, 0, none⟩) n n, .int .i64 s] 0 (setAll_below (g := w.heap.size + 2) (by omega) [.slice (some ⟨w.heap.size + 3, 0, none⟩) n n, .int .i64 s] 0 K1.out)⟩
  refine ownN_row ?_ HL.out (by omega) hn
  exact World.rowIs.of_block hrow.out ((setAll_off (w := setAll w1 (w.heap.size + 2) 0 [.slice (some ⟨w.heap.size + 3, 0, none⟩) n n, .int .i64 s]) (g := w.heap.size + 1) (by omega) [.slice (some ⟨w.heap.size + 3, 0, none⟩) n n, .int .i64 s] 0).trans (setAll_off (w := w1) (g := w.heap.size + 2) (by omega) [.slice (some ⟨w.heap.size + 3, 0, none⟩) n n, .int .i64 s] 0))

set_option maxHeartbeats 1000000 in
theorem eqMemory_same (A B : Option Addr) (n ca cb : Nat) (zs : List Int) (s : Int) (w : World) (hA : Nums w w.heap.size A n zs) (hB : Nums w w.heap.size B n zs) (hn : n ≤ 1048576) :
    Calls Tryz.prog 22 #[.agg #[.slice A n ca, .int .i64 s], .agg #[.slice B n cb, .int .i64 s]] w fun e w' => e = .returned (.bool true) ∧ Below w.heap.size w w' := by
  obtain ⟨V, hV⟩ : ∃ V, (w.alloc (.cells #[.slice A n ca, .int .i64 s] 29)).alloc (.cells #[.slice B n cb, .int .i64 s] 29) = V := ⟨_, rfl⟩
  have K : Hid (Below w.heap.size w V) := by rw [← hV]; exact ((Below.refl _ w).alloc (Nat.le_refl _) _).alloc (by simp) _
  have B0 : Hid (V.heap[w.heap.size]? = some (.cells #[.slice A n ca, .int .i64 s] 29)) := by rw [← hV]; exact heap2a w _ _
  have C0 : Hid (V.heap[w.heap.size + 1]? = some (.cells #[.slice B n cb, .int .i64 s] 29)) := by rw [← hV]; exact heap2b w _ _
  have HA := Lib.hid (hA.on K.out)
  have HB := Lib.hid (hB.on K.out)
  clear hA hB
  obtain ⟨⟨a0, a1⟩, _⟩ := blk2 B0.out
  obtain ⟨⟨b0, b1⟩, _⟩ := blk2 C0.out
  have hcall : Calls Tryz.prog 44 #[.slice A n ca, .slice B n cb] V fun e w' => e = .returned (.bool true) ∧ ∃ q, w' = V.drewN q := by
    have := eqInt64S_any A B n n ca cb zs zs V HA.out HB.out hn hn
    rwa [decide_eq_true rfl] at this
  go_enter Tryz.func22, Tryz.ntmps22
  go_wp2_with fail
  clear hV
  refine hcall.mono ?_
  rintro e w1 ⟨rfl, q, hq⟩
  have a1' : w1.cell? ⟨w.heap.size, 1, none⟩ = some (.int .i64 s) := by rw [hq]; exact a1
  have b1' : w1.cell? ⟨w.heap.size + 1, 1, none⟩ = some (.int .i64 s) := by rw [hq]; exact b1
  have K1 : Hid (Below w.heap.size w w1) := by rw [hq]; exact drewN_below K.out q
  clear hq a0 a1 b0 b1 hcall
  go_wp2
  go_ret
  exact ⟨rfl, K1.out⟩

theorem markMemory_any (A : Option Addr) (n cap : Nat) (zs : List Int) (s : Int) (k base : Nat) (w : World) (h : OwnN w base zs A n cap) (hn : n ≤ 1048576) (hk : k ≤ 4194304) :
    Calls Tryz.prog 24 #[.agg #[.slice A n cap, .int .i64 s], .int .i64 k] w fun e w' => e = .returned (.int .i64 ((k + n : Nat) : Int)) ∧ OwnN w' base (marksL k n) A n cap ∧ w.grownBy w' (blkN A) := by
  have H := Lib.hid (h.alloc (.cells #[.slice A n cap, .int .i64 s] 29))
  clear h
  have hc := markInt64S_any A n cap zs k base _ H.out hn hk
  obtain ⟨m, hm⟩ : ∃ m : Nat, k + n = m := ⟨_, rfl⟩
  rw [hm] at hc ⊢
  go_enter Tryz.func24, Tryz.ntmps24
  go_wp2_with (go_at_call 46; refine hc.mono ?_; rintro e w1 ⟨rfl, ho, hg⟩; have HO := Lib.hid ho; have HG := Lib.hid hg; clear ho hg)
  go_ret
  exact ⟨rfl, HO.out, only2 (World.grownBy_alloc w _ _) HG.out⟩

theorem heldMemory_any (A : Option Addr) (n cap : Nat) (s : Int) (k : Nat) (w : World) (h : Nums w w.heap.size A n (marksL k n)) (hn : n ≤ 1048576) (hk : k ≤ 4194304) :
    Calls Tryz.prog 26 #[.agg #[.slice A n cap, .int .i64 s], .int .i64 k] w fun e w' => e = .returned (.int .i64 ((k + n : Nat) : Int)) ∧ Below w.heap.size w w' := by
  have hb : Below w.heap.size w (w.alloc (.cells #[.slice A n cap, .int .i64 s] 29)) := (Below.refl _ w).alloc (Nat.le_refl _) _
  have hc := heldInt64S_any A n cap k _ (h.on hb) hn hk
  clear h
  obtain ⟨m, hm⟩ : ∃ m : Nat, k + n = m := ⟨_, rfl⟩
  rw [hm] at hc ⊢
  have h0 : ¬ (m : Int) < 0 := by omega
  have HB := Lib.hid hb
  clear hb hm
  go_enter Tryz.func26, Tryz.ntmps26
  go_wp2_with (go_at_call 48; refine hc.mono ?_; rintro e w1 ⟨rfl, rfl⟩)
  go_ret
  exact ⟨rfl, HB.out⟩

end Go.Proofs.YtioogmeghmeelaaGreat.Tx
namespace Go.Proofs.YtioogmeghmeelaaGreat.Tx
open Go.RowKit


theorem memB_no {zs : List Int} {s : Int} {j : Nat} (hj : j < zs.length) (h : isDrawB (zs[j]?.getD 0) = false) : memB zs s = false := by
  cases hm : memB zs s
  · rfl
  · have := (memB_true hm).1 (zs[j]?.getD 0) (by rw [List.getElem?_eq_getElem hj]; exact List.getElem_mem _)
    rw [h] at this; exact this.symm

set_option maxHeartbeats 2000000 in
theorem MemoryOk_spec (A : Option Addr) (n cap : Nat) (zs : List Int) (s : Int) (w : World) (h : Nums w w.heap.size A n zs) (hn : n ≤ 1048576) :
    Calls Tryz.prog 31 #[.agg #[.slice A n cap, .int .i64 s]] w fun e w' => e = .returned (.bool (memB zs s)) ∧ Below w.heap.size w w' := by
  have HL := Lib.hid h.1
  obtain ⟨V, hV⟩ : ∃ V, w.alloc (.cells #[.slice A n cap, .int .i64 s] 29) = V := ⟨_, rfl⟩
  have K : Hid (Below w.heap.size w V) := by rw [← hV]; exact (Below.refl _ w).alloc (Nat.le_refl _) _
  have HC := Lib.hid (h.on K.out)
  have B0 : Hid (V.heap[w.heap.size]? = some (.cells #[.slice A n cap, .int .i64 s] 29)) := by rw [← hV]; exact heap1 w _
  clear h
  obtain ⟨⟨a0, a1⟩, _⟩ := blk2 B0.out
  go_enter Tryz.func31, Tryz.ntmps31
  go_wp2
  clear hV
  go_loopw [3] (fun i wr => ∃ j : Nat, j ≤ n ∧ i = .int .i64 j ∧ Hid (∀ z ∈ zs.take j, isDrawB z = true) ∧ Hid (wr = V)) (fun i _ => n - (intOf i).toNat)
  case atStart => exact ⟨0, Nat.zero_le _, rfl, fun z hz => by simp at hz, rfl⟩
  case round =>
    obtain ⟨j, hj, rfl, hx, hw⟩ := hrel
    rw [← hw.out] at a0 a1
    by_cases hlt : j < n
    · obtain ⟨b, off, rfl, hb, hc⟩ := HC.out.2 (by omega)
      have hck := hc j hlt
      obtain ⟨y, hy⟩ : ∃ y, y = zs[j]?.getD 0 := ⟨_, rfl⟩
      rw [← hy, ← hw.out] at hck
      have HY := Lib.hid hy
      clear hc hy
      have hcall := IsDraw_spec y wr
      cases hd : isDrawB y with
      | false =>
        have HR : Hid (memB zs s = false) := memB_no (j := j) (by rw [HL.out]; exact hlt) (HY.out ▸ hd)
        rw [hd] at hcall
        clear hd
        go_wp2_with (go_at_call 51; refine hcall.mono ?_; rintro e w1 ⟨rfl, rfl⟩)
        go_ret
        exact ⟨by rw [HR.out]; rfl, by rw [hw.out]; exact K.out⟩
      | true =>
        have HN : Hid (∀ z ∈ zs.take (j + 1), isDrawB z = true) := fun z hm => by
          rcases (mem_take_succ (by rw [HL.out]; exact hlt) z).1 hm with h1 | h1
          · exact hx.out z h1
          · rw [h1, ← HY.out]; exact hd
        rw [hd] at hcall
        clear hd
        go_wp2_with (go_at_call 51; refine hcall.mono ?_; rintro e w1 ⟨rfl, rfl⟩)
        go_roundw
        case rel => exact ⟨j + 1, by omega, by go_num, HN, hw⟩
        case measure => simp [intOf]; omega
    · have HD : Hid (zs.all isDrawB = true) := by
        have := hx.out
        rw [List.take_of_length_le (by rw [HL.out]; omega)] at this
        exact List.all_eq_true.2 this
      have HM : Hid (memB zs s = (decide (n ≤ 6) && (unlikeB zs && inB s 0 100000))) := by
        show _ = _
        unfold memB
        rw [HD.out, Bool.true_and, HL.out]
      have hcU : Calls Tryz.prog 56 #[.slice A n cap] wr fun e w' => e = .returned (.bool (unlikeB zs)) ∧ ∃ q, w' = wr.drewN q := by
        rw [hw.out]; exact AllUnlike_spec A n cap zs V HC.out hn
      have hcT := l6Time_any s
      rw [← hw.out] at K
      by_cases h6 : n ≤ 6
      · cases hu : unlikeB zs with
        | false =>
          rw [hu] at hcU
          have HR : Hid (memB zs s = false) := by show _ = _; rw [HM.out, hu]; simp
          clear hu
          go_wp2_with (go_at_call 56; refine hcU.mono ?_; rintro e w1 ⟨rfl, q, hq⟩; have HQ := Lib.hid hq; clear hq)
          go_ret
          exact ⟨by rw [HR.out]; rfl, by rw [HQ.out]; exact drewN_below K.out q⟩
        | true =>
          rw [hu] at hcU
          cases ht : inB s 0 100000 with
          | false =>
            rw [ht] at hcT
            have HR : Hid (memB zs s = false) := by show _ = _; rw [HM.out, ht]; simp
            clear hu ht
            go_wp2_with (first | (go_at_call 56; refine hcU.mono ?_; rintro e w1 ⟨rfl, q, hq⟩; have HQ := Lib.hid hq; have a2 : w1.cell? ⟨w.heap.size, 1, none⟩ = some (.int .i64 s) := by (rw [hq]; exact a1)); clear hq | (go_at_call 32; refine (hcT _).mono ?_; rintro e w2 ⟨rfl, rfl⟩))
            go_ret
            exact ⟨by rw [HR.out]; rfl, by rw [HQ.out]; exact drewN_below K.out q⟩
          | true =>
            rw [ht] at hcT
            have HR : Hid (memB zs s = true) := by show _ = _; rw [HM.out, ht, hu, decide_eq_true h6]; rfl
            clear hu ht
            go_wp2_with (first | (go_at_call 56; refine hcU.mono ?_; rintro e w1 ⟨rfl, q, hq⟩; have HQ := Lib.hid hq; have a2 : w1.cell? ⟨w.heap.size, 1, none⟩ = some (.int .i64 s) := by (rw [hq]; exact a1)); clear hq | (go_at_call 32; refine (hcT _).mono ?_; rintro e w2 ⟨rfl, rfl⟩))
            go_ret
            exact ⟨by rw [HR.out]; rfl, by rw [HQ.out]; exact drewN_below K.out q⟩
      · have HR : Hid (memB zs s = false) := by show _ = _; rw [HM.out, decide_eq_false h6]; rfl
        go_wp2
        go_ret
        exact ⟨by rw [HR.out]; rfl, K.out⟩

end Go.Proofs.YtioogmeghmeelaaGreat.Tx

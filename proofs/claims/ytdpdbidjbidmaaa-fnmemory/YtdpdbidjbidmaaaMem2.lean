/-
  What the laws' helpers over memories do: toMemory, eqMemory, likeMemory, markMemory, heldMemory. Condition: the list has at most 1048576 numbers.
-/
import Derived.Test.YtdpdbidjbidmaaaMem1
import Derived.Test.YtdpdbidjbidmaaaOwn
namespace Go.Proofs.Ytdpdbidjbidmaaa.Tx
open Go.RowKit

theorem blk2 {w : World} {g : Nat} {v0 v1 : Value} {t : TypeId} (h : w.heap[g]? = some (.cells #[v0, v1] t (0, 0))) :
    (w.cell? ⟨g, 0, none⟩ = some v0 ∧ w.cell? ⟨g, 1, none⟩ = some v1) ∧ w.frozen? ⟨g, 0, none⟩ = false ∧ w.frozen? ⟨g, 1, none⟩ = false :=
  ⟨⟨blk_cell h 0, blk_cell h 1⟩, blk_frozen h 0, blk_frozen h 1⟩

set_option maxRecDepth 100000 in
set_option maxHeartbeats 1000000 in
theorem toMemory_any (A : Option Addr) (n cap : Nat) (zs : List Int) (s : Int) (w : World) (h : Nums w w.heap.size A n zs) (hn : n ≤ 1048576) :
    Calls Try.prog 26 #[.agg #[.slice A n cap, .int .i64 s]] w fun e w' => ∃ g, e = .returned (.agg #[.slice (some ⟨g, 0, none⟩) n n, .int .i64 s]) ∧ OwnN w' w.heap.size zs (some ⟨g, 0, none⟩) n n ∧ Below w.heap.size w w' := by
  have hl := h.1
  obtain ⟨V, hV⟩ : ∃ V, ((w.alloc (.cells #[.slice A n cap, .int .i64 s] 40)).alloc (.cells #[.slice none 0 0, .int .i64 0] 26)).alloc (.cells #[.slice none 0 0, .int .i64 0] 26) = V := ⟨_, rfl⟩
  have K : Hid (Below w.heap.size w V) := by rw [← hV]; exact (((Below.refl _ w).alloc (Nat.le_refl _) _).alloc (by simp) _).alloc (by simp; omega) _
  have B0 : Hid (V.heap[w.heap.size]? = some (.cells #[.slice A n cap, .int .i64 s] 40)) := by rw [← hV]; exact alloc_blk (heap2a w _ _)
  have R0 : Hid (V.heap[w.heap.size + 1]? = some (.cells #[.slice none 0 0, .int .i64 0] 26)) := by rw [← hV]; exact alloc_blk (heap2b w _ _)
  have O0 : Hid (V.heap[w.heap.size + 2]? = some (.cells #[.slice none 0 0, .int .i64 0] 26)) := by
    rw [← hV]
    have := heap1 ((w.alloc (.cells #[.slice A n cap, .int .i64 s] 40)).alloc (.cells #[.slice none 0 0, .int .i64 0] 26)) (.cells #[.slice none 0 0, .int .i64 0] 26)
    simp only [World.size_alloc] at this
    exact this
  have sV : V.heap.size = w.heap.size + 3 := by rw [← hV]; simp
  have hS := Lib.hid (h.on K.out)
  clear h
  have HL := Lib.hid hl
  clear hl
  obtain ⟨⟨a0, a1⟩, _⟩ := blk2 B0.out
  go_enter Try.func26, Try.ntmps26
  go_wp2_with fail
  clear a0 a1 hV
  refine (toInt64S_any _ _ _ zs _ hS.out hn).mono ?_
  rintro e w1 ⟨rfl, c1⟩
  rw [sV]
  have hrow := Lib.hid c1.row
  have b := c1.bel
  rw [sV] at b hrow
  clear c1
  have B1 := Lib.hid ((b.block _ (by omega)).trans B0.out)
  have R1 := Lib.hid ((b.block _ (by omega)).trans R0.out)
  have O1 := Lib.hid ((b.block _ (by omega)).trans O0.out)
  have K1 := Lib.hid (K.out.trans (b.mono (by omega)))
  clear b B0 R0 O0 K hS
  obtain ⟨⟨a0, a1⟩, _⟩ := blk2 B1.out
  obtain ⟨⟨r0, r1⟩, p0, p1⟩ := blk2 R1.out
  obtain ⟨⟨o0, o1⟩, q0, q1⟩ := blk2 O1.out
  go_wp2
  refine row_ret (r := w.heap.size + 1) (cs := #[.slice (some ⟨w.heap.size + 3, 0, none⟩) n n, .int .i64 s]) rfl rfl (setAll_whole (vs := [.slice (some ⟨w.heap.size + 3, 0, none⟩) n n, .int .i64 s]) (setAll_away (g := w.heap.size + 2) (by omega) [.slice (some ⟨w.heap.size + 3, 0, none⟩) n n, .int .i64 s] 0 R1.out) rfl) Try.underlying26 rfl (by kernel_rfl) rfl
        ⟨w.heap.size + 3, rfl, ?_, setAll_below (g := w.heap.size + 1) (by omega) [.slice (some ⟨w.heap.size + 3, 0, none⟩) n n, .int .i64 s] 0 (setAll_below (g := w.heap.size + 2) (by omega) [.slice (some ⟨w.heap.size + 3, 0, none⟩) n n, .int .i64 s] 0 K1.out)⟩
  refine ownN_row ?_ HL.out (by omega) hn
  exact World.rowIs.of_block hrow.out ((setAll_off (w := setAll w1 (w.heap.size + 2) 0 [.slice (some ⟨w.heap.size + 3, 0, none⟩) n n, .int .i64 s]) (g := w.heap.size + 1) (by omega) [.slice (some ⟨w.heap.size + 3, 0, none⟩) n n, .int .i64 s] 0).trans (setAll_off (w := w1) (g := w.heap.size + 2) (by omega) [.slice (some ⟨w.heap.size + 3, 0, none⟩) n n, .int .i64 s] 0))

set_option maxHeartbeats 1000000 in
theorem eqMemory_same (A B : Option Addr) (n ca cb : Nat) (zs : List Int) (s : Int) (w : World) (hA : Nums w w.heap.size A n zs) (hB : Nums w w.heap.size B n zs) (hn : n ≤ 1048576) :
    Calls Try.prog 27 #[.agg #[.slice A n ca, .int .i64 s], .agg #[.slice B n cb, .int .i64 s]] w fun e w' => e = .returned (.bool true) ∧ Below w.heap.size w w' := by
  obtain ⟨V, hV⟩ : ∃ V, (w.alloc (.cells #[.slice A n ca, .int .i64 s] 26)).alloc (.cells #[.slice B n cb, .int .i64 s] 26) = V := ⟨_, rfl⟩
  have K : Hid (Below w.heap.size w V) := by rw [← hV]; exact ((Below.refl _ w).alloc (Nat.le_refl _) _).alloc (by simp) _
  have B0 : Hid (V.heap[w.heap.size]? = some (.cells #[.slice A n ca, .int .i64 s] 26)) := by rw [← hV]; exact heap2a w _ _
  have C0 : Hid (V.heap[w.heap.size + 1]? = some (.cells #[.slice B n cb, .int .i64 s] 26)) := by rw [← hV]; exact heap2b w _ _
  have HA := Lib.hid (hA.on K.out)
  have HB := Lib.hid (hB.on K.out)
  clear hA hB
  obtain ⟨⟨a0, a1⟩, _⟩ := blk2 B0.out
  obtain ⟨⟨b0, b1⟩, _⟩ := blk2 C0.out
  have hcall : Calls Try.prog 53 #[.slice A n ca, .slice B n cb] V fun e w' => e = .returned (.bool true) ∧ ∃ q, w' = V.drewN q := by
    have := eqInt64S_any A B n n ca cb zs zs V HA.out HB.out hn hn
    rwa [decide_eq_true rfl] at this
  go_enter Try.func27, Try.ntmps27
  go_wp2_with fail
  clear hV
  refine hcall.mono ?_
  rintro e w1 ⟨rfl, q, hq⟩
  have a1' : w1.cell? ⟨w.heap.size, 1, none⟩ = some (.int .i64 s) := by rw [hq]; exact a1
  have b1' : w1.cell? ⟨w.heap.size + 1, 1, none⟩ = some (.int .i64 s) := by rw [hq]; exact b1
  have K1 : Hid (Below w.heap.size w w1) := by rw [hq]; exact drewN_below K.out q
  clear hq a0 a1 b0 b1 hcall
  go_wp2
  go_ret
  exact ⟨rfl, K1.out⟩

set_option maxHeartbeats 1000000 in
theorem likeMemory_same (A B : Option Addr) (n ca cb : Nat) (zs : List Int) (s : Int) (w : World) (hA : Nums w w.heap.size A n zs) (hB : Nums w w.heap.size B n zs) (hn : n ≤ 1048576) :
    Calls Try.prog 22 #[.agg #[.slice A n ca, .int .i64 s], .agg #[.slice B n cb, .int .i64 s]] w fun e w' => e = .returned (.bool true) ∧ Below w.heap.size w w' := by
  obtain ⟨V, hV⟩ : ∃ V, (w.alloc (.cells #[.slice A n ca, .int .i64 s] 26)).alloc (.cells #[.slice B n cb, .int .i64 s] 26) = V := ⟨_, rfl⟩
  have K : Hid (Below w.heap.size w V) := by rw [← hV]; exact ((Below.refl _ w).alloc (Nat.le_refl _) _).alloc (by simp) _
  have B0 : Hid (V.heap[w.heap.size]? = some (.cells #[.slice A n ca, .int .i64 s] 26)) := by rw [← hV]; exact heap2a w _ _
  have C0 : Hid (V.heap[w.heap.size + 1]? = some (.cells #[.slice B n cb, .int .i64 s] 26)) := by rw [← hV]; exact heap2b w _ _
  have HA := Lib.hid (hA.on K.out)
  have HB := Lib.hid (hB.on K.out)
  clear hA hB
  obtain ⟨⟨a0, a1⟩, _⟩ := blk2 B0.out
  obtain ⟨⟨b0, b1⟩, _⟩ := blk2 C0.out
  have hcall : Calls Try.prog 50 #[.slice A n ca, .slice B n cb] V fun e w' => e = .returned (.bool true) ∧ ∃ q, w' = V.drewN q := by
    have := likeInts_any A B n n ca cb zs zs V HA.out HB.out hn hn
    rwa [decide_eq_true rfl] at this
  go_enter Try.func22, Try.ntmps22
  go_wp2_with fail
  clear hV
  refine hcall.mono ?_
  rintro e w1 ⟨rfl, q, hq⟩
  have a1' : w1.cell? ⟨w.heap.size, 1, none⟩ = some (.int .i64 s) := by rw [hq]; exact a1
  have b1' : w1.cell? ⟨w.heap.size + 1, 1, none⟩ = some (.int .i64 s) := by rw [hq]; exact b1
  have K1 : Hid (Below w.heap.size w w1) := by rw [hq]; exact drewN_below K.out q
  clear hq a0 a1 b0 b1 hcall
  go_wp2
  go_ret
  exact ⟨rfl, K1.out⟩

theorem markMemory_any (A : Option Addr) (n cap : Nat) (zs : List Int) (s : Int) (k base : Nat) (w : World) (h : OwnN w base zs A n cap) (hn : n ≤ 1048576) (hk : k ≤ 4194304) :
    Calls Try.prog 28 #[.agg #[.slice A n cap, .int .i64 s], .int .i64 k] w fun e w' => e = .returned (.int .i64 ((k + n : Nat) : Int)) ∧ OwnN w' base (marksL k n) A n cap ∧ w.grownBy w' (blkN A) := by
  have H := Lib.hid (h.alloc (.cells #[.slice A n cap, .int .i64 s] 26))
  clear h
  have hc := markInt64S_any A n cap zs k base _ H.out hn hk
  obtain ⟨m, hm⟩ : ∃ m : Nat, k + n = m := ⟨_, rfl⟩
  rw [hm] at hc ⊢
  go_enter Try.func28, Try.ntmps28
  go_wp2_with (go_at_call 54; refine hc.mono ?_; rintro e w1 ⟨rfl, ho, hg⟩; have HO := Lib.hid ho; have HG := Lib.hid hg; clear ho hg)
  go_ret
  exact ⟨rfl, HO.out, only2 (World.grownBy_alloc w _ _) HG.out⟩

theorem heldMemory_any (A : Option Addr) (n cap : Nat) (s : Int) (k : Nat) (w : World) (h : Nums w w.heap.size A n (marksL k n)) (hn : n ≤ 1048576) (hk : k ≤ 4194304) :
    Calls Try.prog 29 #[.agg #[.slice A n cap, .int .i64 s], .int .i64 k] w fun e w' => e = .returned (.int .i64 ((k + n : Nat) : Int)) ∧ Below w.heap.size w w' := by
  have hb : Below w.heap.size w (w.alloc (.cells #[.slice A n cap, .int .i64 s] 26)) := (Below.refl _ w).alloc (Nat.le_refl _) _
  have hc := heldInt64S_any A n cap k _ (h.on hb) hn hk
  clear h
  obtain ⟨m, hm⟩ : ∃ m : Nat, k + n = m := ⟨_, rfl⟩
  rw [hm] at hc ⊢
  have h0 : ¬ (m : Int) < 0 := by omega
  have HB := Lib.hid hb
  clear hb hm
  go_enter Try.func29, Try.ntmps29
  go_wp2_with (go_at_call 55; refine hc.mono ?_; rintro e w1 ⟨rfl, rfl⟩)
  go_ret
  exact ⟨rfl, HB.out⟩

end Go.Proofs.Ytdpdbidjbidmaaa.Tx

/-
  What drawsOf of the program makes (a copy of the list in new memory), and what slices.SortFunc does with it by draw.compare: the same numbers, rising. Condition: the list has at most 1048576 numbers.
-/
import Derived.WalkKit
import Derived.Deep.OwnRows
import Derived.ProofKit
import Derived.Lib.Hide
import Derived.Lib.OwnBridge
import Derived.Test.YtdpdbidjbidmaaaNums
import Derived.Test.YtdpdbidjbidmaaaDraws0
import Derived.Test.YtdpdbidjbidmaaaShelf
namespace Go.Proofs.Ytdpdbidjbidmaaa.Tx
open Go.RowKit Go.Shelf
open Go.Lib (compareInt)
open Go.Sort (SWO Holds putRow PermIn SortedIn grow)

theorem infoDraw : (Try.prog.info? 75).map (fun i => (i.zero, i.size, i.bytes)) = some (some (.int .i64 0), 1, 8) := by kernel_rfl

set_option maxHeartbeats 1000000 in
theorem drawsOf_any (A : Option Addr) (n cap : Nat) (zs : List Int) (w : World) (h : Nums w w.heap.size A n zs) (hn : n ≤ 1048576) :
    Calls Try.prog 64 #[.slice A n cap] w fun e w' => e = .returned (.slice (some ⟨w.heap.size, 0, none⟩) n n) ∧ w'.rowIs w.heap.size 75 n (fun i => .int .i64 (zs[i]?.getD 0)) ∧ Below w.heap.size w w' := by
  obtain ⟨hlen, hcells⟩ := h
  have HC := Lib.hid hcells
  clear hcells hlen
  have hmk := run_make_row' (P := Try.prog) 84 75 (.int .i64 0) 8 Try.underlying84 infoDraw rfl .i64 .i64 n (by omega) (by omega)
  go_enter Try.func64, Try.ntmps64
  go_wp2
  clear hmk
  go_loopw [11] (fun i wr => ∃ k : Nat, k ≤ n ∧ i = .int .i64 k ∧ wr.rowIs w.heap.size 75 n (fun j => if j < k then .int .i64 (zs[j]?.getD 0) else .int .i64 0) ∧ Below w.heap.size w wr)
    (fun i _ => n - (intOf i).toNat)
  case atStart => exact ⟨0, Nat.zero_le _, rfl, (World.rowIs_made w _ n 75).congr (fun j _ => by simp), (Below.refl _ w).alloc (Nat.le_refl _) _⟩
  case round =>
    obtain ⟨k, hk, rfl, hrow, hB⟩ := hrel
    by_cases hlt : k < n
    · obtain ⟨b, off, rfl, hb, hc⟩ := HC.out (by omega)
      have hck := (hB.cell (p := ⟨b, off + k, none⟩) hb).trans (hc k hlt)
      have hst1 := hrow.cell hlt
      have hst2 := hrow.frozen k
      have HR := Lib.hid hrow
      clear hc hrow
      go_wp2
      go_roundw
      case rel =>
        refine ⟨k + 1, by omega, by go_num, (HR.out.set k _).congr (fun j hj => ?_), hB.setCell (p := ⟨w.heap.size, k, none⟩) (Nat.le_refl _) _⟩
        by_cases e : j = k
        · subst e; simp
        · by_cases hjk : j < k
          · simp only [e, hjk, if_true, if_false]; rw [if_pos (by omega)]
          · simp only [e, hjk, if_false]; rw [if_neg (by omega)]
      case measure => simp [intOf]; omega
    · obtain rfl : k = n := by omega
      have HR := Lib.hid hrow
      clear hrow
      go_wp2
      go_ret
      exact ⟨rfl, HR.out.congr (fun j hj => by rw [if_pos hj]), hB⟩

theorem compare_any (x y : Int) (W : World) : Calls Try.prog 66 #[.int .i64 x, .int .i64 y] W fun e w' => e = .returned (.int .i64 (compareInt x y)) ∧ ∃ q, w' = W.drewN q := by
  have hcon := AnyG.cmp_Compare_int cmpL x y W
  change Calls Try.prog 70 _ _ _ at hcon
  generalize compareInt x y = r at hcon ⊢
  go_enter Try.func66, Try.ntmps66
  go_wp2_with (go_at_call 70; refine hcon.mono ?_; rintro e w' ⟨rfl, rfl⟩)
  go_ret
  exact ⟨rfl, 0, rfl⟩

theorem lt_iff (x y : Int) : ltOf compareInt x y = decide (x < y) := by
  unfold ltOf compareInt
  by_cases h1 : x < y
  · simp [h1]
  · by_cases h2 : y < x <;> simp [h1, h2]
theorem swoC : SWO (ltOf compareInt) where
  irrefl x := by rw [lt_iff]; simp
  trans x y z h1 h2 := by rw [lt_iff] at *; simp at *; omega
  ntrans x y z h1 h2 := by rw [lt_iff] at *; simp at *; omega

theorem reads (blk off size : Nat) (w : World) : CmpReads Try.prog 66 #[] (Value.int .i64) compareInt blk off size w :=
  fun _ _ _ _ x y => compare_any x y _

set_option maxHeartbeats 1000000 in
theorem SortFunc_any (blk cap : Nat) (d : Array Int) (w : World) (hH : Holds (Value.int .i64) w blk 0 d) (hblk : blk < w.heap.size) (hsz : d.size ≤ 1048576) :
    Calls Try.prog 65 #[.slice (some ⟨blk, 0, none⟩) d.size cap, .func (.func 66) #[] #[]] w fun e w' =>
      e = .returned (.tuple #[]) ∧ ∃ d' n os, PermIn 0 d.size d d' ∧ SortedIn (ltOf compareInt) 0 d.size d' ∧ w' = sortWorld (Value.int .i64) w blk 0 n d' os := by
  have eg : ∀ args w, (callFunc 66 args).run Try.prog w = .ok (.enter 66 args) w := enters_of Try.func66 (by kernel_rfl) rfl
  have hlim : Lib.bitLen d.size < 4611686018427387904 := Nat.lt_of_le_of_lt (Lib.bitLen_le d.size 62 (by omega) (by omega)) (by omega)
  have hp := Any.pdqsortCmpFunc_all pdqL (Value.int .i64) compareInt 66 #[] swoC blk 0 cap d w eg (reads blk 0 d.size w).lays ⟨fun _ => rfl, hH, hblk⟩ (d.size + 1) 0 d.size (Lib.bitLen d.size) d w (by omega) rfl (SW.start hH) (Nat.zero_le _) (Nat.le_refl _) (by omega) hlim (Or.inl rfl)
  change Calls Try.prog 68 _ _ _ at hp
  have hl : Calls Try.prog 69 #[.int .u64 (d.size : Int)] w fun e w' => e = .returned (.int .i64 (Lib.bitLen d.size : Nat)) ∧ w' = w := by
    have h := Any.bits_Len (SlLaysF0.n15.bits lenL) (d.size : Int) w (by omega) (by omega)
    rw [Int.toNat_natCast] at h
    exact h
  have hs := Go.Sort.pdq_sorts (ltOf compareInt) swoC d 0 d.size (Lib.bitLen d.size) true true (Nat.zero_le _) (Nat.le_refl _) (Or.inl rfl)
  have HS := Lib.hid hs
  clear hs
  generalize Go.Sort.pdq (ltOf compareInt) d 0 d.size (Lib.bitLen d.size) true true = r at hp HS
  clear hH hlim
  generalize Lib.bitLen d.size = bl at hp hl
  have HSZ := hsz
  generalize d.size = m at hp hl HS hsz ⊢
  clear HSZ
  go_enter Try.func65, Try.ntmps65
  go_wp2_with (first | (go_at_call 69; refine hl.mono ?_; rintro e w' ⟨rfl, rfl⟩) | (go_at_call 68; refine hp.mono ?_; rintro e w' ⟨rfl, n, os, rfl⟩))
  go_end0
  exact ⟨rfl, r, n, os, HS.out.1, HS.out.2, rfl⟩

end Go.Proofs.Ytdpdbidjbidmaaa.Tx

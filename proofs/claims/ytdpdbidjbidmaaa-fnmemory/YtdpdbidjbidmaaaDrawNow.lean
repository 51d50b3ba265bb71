/-
  What the model draws as a time. Condition: the draw's code has at most 4096 bytes.
-/
import Derived.Test.YtdpdbidjbidmaaaCurEnv
namespace Go.Proofs.Ytdpdbidjbidmaaa.Tx
open Go.RowKit

set_option maxRecDepth 100000 in
set_option maxHeartbeats 4000000 in
theorem l6DrawNow_any (w : World) (g : Nat) (A : Option Addr) (n cap : Nat) (i h : Int) (hn : n ≤ 4096) (c : Cur w g A n cap i h) :
    Calls Try.prog 35 #[.pointer (some ⟨g, 0, none⟩)] w (CurOut (fun x => -1 ≤ x ∧ x ≤ 100001) w g A n cap) := by
  have hg := c.lt
  have C := Lib.hid c
  clear c
  have G := Lib.hid (only_refl w g)
  go_enter Try.func35, Try.ntmps35
  go_wp2_with fail
  refine (l1Once_any _ g A n cap i h 12 hn (by omega) (by omega) C.out).mono ?_
  rintro e w1 ⟨o, i1, h1, rfl, c, b⟩
  replace G := Lib.hid (only_trans G.out b)
  replace C := Lib.hid c
  have sw1 := b.size
  clear b c
  cases o with
  | false =>
    go_wp2_with fail
    refine (l1Below_big _ g A n cap i1 h1 300 hn (by omega) (by omega) C.out).mono ?_
    rintro e w2 ⟨u, i2, h2, ⟨_, _⟩, rfl, c, b⟩
    replace G := Lib.hid (only_trans G.out b)
    replace C := Lib.hid c
    have sw2 := b.size
    clear b c
    go_wp2
    go_ret
    exact CurOut.of ⟨by omega, by omega⟩ C.out G.out
  | true =>
    obtain ⟨W2, hW2⟩ : ∃ W, w1.alloc (.cells #[.int .i64 (-1), .int .i64 100000, .int .i64 100001] 2) = W := ⟨_, rfl⟩
    replace G := Lib.hid (only_alloc G.out (.cells #[.int .i64 (-1), .int .i64 100000, .int .i64 100001] 2))
    replace C := Lib.hid (C.out.alloc (.cells #[.int .i64 (-1), .int .i64 100000, .int .i64 100001] 2))
    have L := Lib.hid (heap1 w1 (.cells #[.int .i64 (-1), .int .i64 100000, .int .i64 100001] 2))
    rw [hW2] at G C L
    have sW2 : w1.heap.size < W2.heap.size := by rw [← hW2]; simp
    go_wp2_with fail
    clear hW2
    refine (l1Below_any _ g A n cap i1 h1 3 hn (by omega) (by omega) C.out).mono ?_
    rintro e w3 ⟨u, i3, h3, ⟨hu0, hu1⟩, rfl, c, b⟩
    replace G := Lib.hid (only_trans G.out b)
    replace C := Lib.hid c
    replace L := Lib.hid (blk_off b L.out (by omega))
    have sw3 := b.size
    clear b c
    obtain ⟨m, rfl⟩ := Int.eq_ofNat_of_zero_le hu0
    obtain ⟨zz, hz, hz0, hz1⟩ : ∃ z : Int, w3.cell? ⟨w1.heap.size, m, none⟩ = some (.int .i64 z) ∧ -1 ≤ z ∧ z ≤ 100001 := by
      rw [blk_cell L.out]
      have hm : m = 0 ∨ m = 1 ∨ m = 2 := by omega
      rcases hm with rfl | rfl | rfl <;> exact ⟨_, rfl, by omega, by omega⟩
    go_wp2
    go_ret
    exact CurOut.of ⟨by omega, by omega⟩ C.out G.out

end Go.Proofs.Ytdpdbidjbidmaaa.Tx

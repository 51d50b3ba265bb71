/-
  What the model draws for a text: a string of at most 12 bytes; nothing that lay is written but the cursor. Condition: the draw's code has at most 4096 bytes.
-/
import Derived.Test.YtchdmmlkgglmcaaGreatDoorCurNew
namespace Go.Proofs.YtchdmmlkgglmcaaGreatDoor.Tx
open Go.RowKit

/-- What a draw of a string leaves: a string of which P holds. -/
def StrOut (m : Nat) (w : World) (g : Nat) (A : Option Addr) (n cap : Nat) (e : Ending) (w' : World) : Prop :=
  ∃ (s : ByteArray) (i h : Int), s.size ≤ m ∧ e = .returned (.string s) ∧ Cur w' g A n cap i h ∧ w.grownBy w' (some g)

set_option maxHeartbeats 1000000 in
theorem l1DrawText_any (w : World) (g : Nat) (A : Option Addr) (n cap : Nat) (i h : Int) (hn : n ≤ 4096) (c : Cur w g A n cap i h) :
    Calls Tryz.prog 69 #[.pointer (some ⟨g, 0, none⟩)] w (StrOut 12 w g A n cap) := by
  have C := Lib.hid c
  have hg := c.lt
  clear c
  go_enter Tryz.func69, Tryz.ntmps69
  go_wp2_with fail
  refine (l1Below_any _ g A n cap i h 6 hn (by omega) (by omega) (C.out.alloc _)).mono ?_
  rintro e w1 ⟨x, i1, g1, ⟨hx0, hx1⟩, rfl, c1, b1⟩
  obtain ⟨k, rfl⟩ := Int.eq_ofNat_of_zero_le hx0
  have hblk := alloc_kept b1 hg
  have hcell : ∃ s : ByteArray, w1.cell? ⟨w.heap.size, k, none⟩ = some (.string s) ∧ s.size ≤ 12 := by
    have hk : k = 0 ∨ k = 1 ∨ k = 2 ∨ k = 3 ∨ k = 4 ∨ k = 5 := by omega
    rcases hk with rfl | rfl | rfl | rfl | rfl | rfl <;> exact ⟨_, by rw [World.cell?, hblk]; rfl, by decide⟩
  obtain ⟨s, hs, hsz⟩ := hcell
  have C1 := Lib.hid c1
  have B1 := Lib.hid (only_trans (World.grownBy_alloc w _ (some g)) b1)
  clear c1 b1 hblk
  go_wp2
  go_ret
  exact ⟨s, _, _, hsz, rfl, C1.out, B1.out⟩

end Go.Proofs.YtchdmmlkgglmcaaGreatDoor.Tx

/-
  A list of boxes that reads as bs; what the helpers over two like lists answer. Condition: at most 1048576 boxes.
-/
import Derived.Test.YtchdmmlkgglmcaaGreatDoorBox
import Derived.Test.YtchdmmlkgglmcaaGreatDoorRegionL
namespace Go.Proofs.YtchdmmlkgglmcaaGreatDoor.Tx
open Go.RowKit

/-- The seven cells of b lie in block g from o on. -/
def BoxAt (w : World) (g o : Nat) (b : BoxV) : Prop :=
  w.cell? ⟨g, o, none⟩ = some (.int .i64 b.k.u) ∧ w.cell? ⟨g, o + 1, none⟩ = some (.int .i64 b.k.s) ∧ w.cell? ⟨g, o + 2, none⟩ = some (.int .i64 b.k.h) ∧ w.cell? ⟨g, o + 3, none⟩ = some (.int .i64 b.k.a) ∧ w.cell? ⟨g, o + 4, none⟩ = some (.int .i64 b.no) ∧ w.cell? ⟨g, o + 5, none⟩ = some (.string b.t) ∧ w.cell? ⟨g, o + 6, none⟩ = some (.bool b.sp)
theorem BoxAt.below {w w' : World} {B g o : Nat} {b : BoxV} (h : BoxAt w g o b) (hg : g < B) (hb : Below B w w') : BoxAt w' g o b :=
  ⟨(hb.cell (p := ⟨g, o, none⟩) hg).trans h.1, (hb.cell (p := ⟨g, o + 1, none⟩) hg).trans h.2.1, (hb.cell (p := ⟨g, o + 2, none⟩) hg).trans h.2.2.1, (hb.cell (p := ⟨g, o + 3, none⟩) hg).trans h.2.2.2.1, (hb.cell (p := ⟨g, o + 4, none⟩) hg).trans h.2.2.2.2.1, (hb.cell (p := ⟨g, o + 5, none⟩) hg).trans h.2.2.2.2.2.1, (hb.cell (p := ⟨g, o + 6, none⟩) hg).trans h.2.2.2.2.2.2⟩
/-- A slice of boxes that reads as bs, in blocks below B. -/
def Bxs (w : World) (B : Nat) (A : Option Addr) (n : Nat) (bs : List BoxV) : Prop :=
  bs.length = n ∧ (0 < n → ∃ b off, A = some ⟨b, off, none⟩ ∧ b < B ∧ ∀ j, j < n → BoxAt w b (off + j * 7) (bs[j]?.getD .zero))
theorem Bxs.below {w w' : World} {B : Nat} {A : Option Addr} {n : Nat} {bs : List BoxV} (h : Bxs w B A n bs) (hb : Below B w w') : Bxs w' B A n bs :=
  ⟨h.1, fun hn => by
    obtain ⟨b, off, rfl, hlt, hc⟩ := h.2 hn
    exact ⟨b, off, rfl, hlt, fun j hj => (hc j hj).below hlt hb⟩⟩



end Go.Proofs.YtchdmmlkgglmcaaGreatDoor.Tx

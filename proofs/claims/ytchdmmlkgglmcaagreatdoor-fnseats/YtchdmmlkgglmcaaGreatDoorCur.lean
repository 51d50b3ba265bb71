/-
  What the model's cursor over a draw's bytes gives: a byte from 0 to 255, a number below n, a number from lo to hi; only the cursor's own block is written. Conditions: the cursor lies as l1New lays it; n is at most 256 where a number below n is asked.
-/
import Derived.WalkKit
import Derived.Deep.OwnRows
import Derived.ProofKit
import Derived.Deep.Draws
import Derived.Deep.QuietTactic
import Derived.Deep.AppendLies
import Derived.BigQuiet
import Derived.Maps.AppendAt
import Derived.Laws.BitsAllLaws
import Derived.Laws.BitsLemmas
import Derived.Lib.Hide
import Derived.Test.YtchdmmlkgglmcaaGreatDoorProg
namespace Go.Proofs.YtchdmmlkgglmcaaGreatDoor.Tx
open Go.RowKit

/-- The slice value '.slice A n _' holds n bytes in a block below B. -/
def BytesAt (w : World) (B : Nat) (A : Option Addr) (n : Nat) : Prop :=
  0 < n → ∃ b off, A = some ⟨b, off, none⟩ ∧ b < B ∧ ∀ j, j < n → ∃ c : Int, 0 ≤ c ∧ c ≤ 255 ∧ w.cell? ⟨b, off + j, none⟩ = some (.int .u8 c)

theorem bytesAt_of_ints {w : World} {a : Addr} {len : Nat} {zs : List Int} (hl : len ≤ zs.length) (hcell : ∀ i, i < zs.length → w.cell? (a.add i) = some (.int .u8 (zs.getD i 0))) (hw : ∀ n ∈ zs, 0 ≤ n ∧ n ≤ 255) :
    BytesAt w w.heap.size (some a) len := by
  intro hn
  obtain ⟨b, off, spot⟩ := a
  have h0 := hcell 0 (by omega)
  have hspot : spot = none := by simpa [Addr.add] using World.cell?_spot h0
  subst hspot
  refine ⟨b, off, rfl, World.block_lt_of_cell? _ _ h0, fun j hj => ?_⟩
  have hj' : j < zs.length := by omega
  have hm := hw (zs.getD j 0) (by rw [List.getD_eq_getElem?_getD, List.getElem?_eq_getElem hj']; exact List.getElem_mem _)
  exact ⟨_, hm.1, hm.2, by rw [← Go.WideShapes.add_plain]; exact hcell j hj'⟩

/-- The cursor in block g: the bytes, the place, the number that follows from them. -/
structure Cur (w : World) (g : Nat) (A : Option Addr) (n cap : Nat) (i h : Int) : Prop where
  blk : w.heap[g]? = some (.cells #[.slice A n cap, .int .i64 i, .int .i64 h] 79 (0, 0))
  lo : 0 ≤ i
  hi : i ≤ n
  bytes : BytesAt w g A n

section
variable {w w' : World} {g : Nat} {A : Option Addr} {n cap : Nat} {i h : Int}
theorem Cur.lt (c : Cur w g A n cap i h) : g < w.heap.size := by
  rcases Nat.lt_or_ge g w.heap.size with hlt | hge
  · exact hlt
  · have := c.blk; rw [Array.getElem?_eq_none hge] at this; cases this
theorem Cur.cell0 (c : Cur w g A n cap i h) : w.cell? ⟨g, 0, none⟩ = some (.slice A n cap) := by simp [World.cell?, c.blk]
theorem Cur.cell1 (c : Cur w g A n cap i h) : w.cell? ⟨g, 1, none⟩ = some (.int .i64 i) := by simp [World.cell?, c.blk]
theorem Cur.cell2 (c : Cur w g A n cap i h) : w.cell? ⟨g, 2, none⟩ = some (.int .i64 h) := by simp [World.cell?, c.blk]
theorem Cur.frozen (c : Cur w g A n cap i h) (k : Nat) : w.frozen? ⟨g, k, none⟩ = false := by simp [World.frozen?, c.blk]
theorem Cur.set2 (c : Cur w g A n cap i h) (h' : Int) : Cur (w.setCell ⟨g, 2, none⟩ (.int .i64 h')) g A n cap i h' :=
  ⟨by have := c.blk; simp [World.setCell, Array.getElem?_modify, this], c.lo, c.hi, fun hn => by
    obtain ⟨b, off, e, hb, hc⟩ := c.bytes hn
    exact ⟨b, off, e, hb, fun j hj => by
      obtain ⟨x, h0, h1, hx⟩ := hc j hj
      exact ⟨x, h0, h1, by rw [World.cell?_setCell_other _ _ _ _ (fun e => by have := congrArg Addr.block e; simp at this; omega)]; exact hx⟩⟩⟩
theorem Cur.set1 (c : Cur w g A n cap i h) (i' : Int) (h0 : 0 ≤ i') (h1 : i' ≤ n) : Cur (w.setCell ⟨g, 1, none⟩ (.int .i64 i')) g A n cap i' h :=
  ⟨by have := c.blk; simp [World.setCell, Array.getElem?_modify, this], h0, h1, fun hn => by
    obtain ⟨b, off, e, hb, hc⟩ := c.bytes hn
    exact ⟨b, off, e, hb, fun j hj => by
      obtain ⟨x, h0, h1, hx⟩ := hc j hj
      exact ⟨x, h0, h1, by rw [World.cell?_setCell_other _ _ _ _ (fun e => by have := congrArg Addr.block e; simp at this; omega)]; exact hx⟩⟩⟩
theorem Cur.drewN (c : Cur w g A n cap i h) (q : Nat) : Cur (w.drewN q) g A n cap i h := ⟨c.blk, c.lo, c.hi, c.bytes⟩
/-- It is kept where only blocks from g + 1 on have turned. -/
theorem Cur.below (c : Cur w g A n cap i h) (hb : Below (g + 1) w w') : Cur w' g A n cap i h :=
  ⟨(hb.block g (by omega)).trans c.blk, c.lo, c.hi, fun hn => by
    obtain ⟨b, off, e, hlt, hc⟩ := c.bytes hn
    exact ⟨b, off, e, hlt, fun j hj => by
      obtain ⟨x, h0, h1, hx⟩ := hc j hj
      exact ⟨x, h0, h1, (hb.cell (p := ⟨b, off + j, none⟩) (by show b < g + 1; omega)).trans hx⟩⟩⟩
end

/-- The world has moved on; only block g, and what is new, has turned. -/
theorem only_refl (w : World) (g : Nat) : w.grownBy w (some g) := World.grownBy.refl w _
theorem only_set {a w : World} {g : Nat} (h : a.grownBy w (some g)) (k : Nat) (u : Value) : a.grownBy (w.setCell ⟨g, k, none⟩ u) (some g) :=
  ⟨h.os, h.tape, h.output, by simpa [World.setCell] using h.size, fun i hi hne => (Below.heap_setCell w ⟨g, k, none⟩ u i (by rintro rfl; exact hne rfl)).trans (h.block i hi hne)⟩
theorem only_drewN {a w : World} {row : Option Nat} (h : a.grownBy w row) (q : Nat) : a.grownBy (w.drewN q) row := ⟨h.os, h.tape, h.output, h.size, h.block⟩
theorem only_alloc {a w : World} {row : Option Nat} (h : a.grownBy w row) (o : Obj) : a.grownBy (w.alloc o) row :=
  ⟨h.os, h.tape, h.output, Nat.le_trans h.size (by simp), fun i hi hne => (Below.heap_alloc w o i (Nat.lt_of_lt_of_le hi h.size)).trans (h.block i hi hne)⟩
theorem only_trans {a b c : World} {row : Option Nat} (h : a.grownBy b row) (k : b.grownBy c row) : a.grownBy c row :=
  ⟨k.os.trans h.os, k.tape.trans h.tape, k.output.trans h.output, Nat.le_trans h.size k.size, fun i hi hne => (k.block i (Nat.lt_of_lt_of_le hi h.size) hne).trans (h.block i hi hne)⟩
theorem only_below {a b c : World} {row : Option Nat} (h : a.grownBy b row) (k : Below b.heap.size b c) : a.grownBy c row :=
  ⟨k.os.trans h.os, k.tape.trans h.tape, k.output.trans h.output, Nat.le_trans h.size k.size, fun i hi hne => (k.block i (Nat.lt_of_lt_of_le hi h.size)).trans (h.block i hi hne)⟩
theorem below_of_only {B : Nat} {w w' : World} {g : Nat} (h : w.grownBy w' (some g)) (hB : B ≤ g) (hg : g < w.heap.size) : Below B w w' :=
  ⟨h.os, h.tape, h.output, h.size, fun k hk => h.block k (by omega) (by intro e; injection e with e; omega)⟩

theorem and255 (x : Int) : 0 ≤ bits .and .i64 x 255 ∧ bits .and .i64 x 255 ≤ 255 := by
  have h : bits .and .i64 x 255 = IntKind.i64.wrap ((BitVec.ofInt 64 x &&& BitVec.ofInt 64 255).toNat : Int) := rfl
  rw [h, BitVec.toNat_and, IntKind.wrap_i64]
  have : (BitVec.ofInt 64 x).toNat &&& (BitVec.ofInt 64 255).toNat ≤ (BitVec.ofInt 64 255).toNat := Nat.and_le_right
  have e : (BitVec.ofInt 64 255).toNat = 255 := by decide
  rw [e] at this ⊢
  omega

/-- What a call on the cursor leaves: a number of which P holds. -/
def CurOut (P : Int → Prop) (w : World) (g : Nat) (A : Option Addr) (n cap : Nat) (e : Ending) (w' : World) : Prop :=
  ∃ x i h : Int, P x ∧ e = .returned (.int .i64 x) ∧ Cur w' g A n cap i h ∧ w.grownBy w' (some g)

set_option maxRecDepth 100000 in
set_option maxHeartbeats 2000000 in
theorem l1Byte_any (w : World) (g : Nat) (A : Option Addr) (n cap : Nat) (i h : Int) (hn : n ≤ 4096) (c : Cur w g A n cap i h) :
    Calls Tryz.prog 53 #[.pointer (some ⟨g, 0, none⟩)] w (CurOut (fun x => 0 ≤ x ∧ x ≤ 255) w g A n cap) := by
  obtain ⟨k, rfl⟩ := Int.eq_ofNat_of_zero_le c.lo
  have C := Lib.hid c
  have hc0 := c.cell0
  have hc1 := c.cell1
  have hc2 := c.cell2
  have hf1 := c.frozen 1
  have hf2 := c.frozen 2
  have hlo := c.lo
  have hhi := c.hi
  clear c
  go_enter Tryz.func53, Tryz.ntmps53
  go_wp2
  generalize wrap64 (wrap64 (h * 6364136223846793005) + 1442695040888963407) = h1
  generalize wrap64 (h * 6364136223846793005) = h2
  have C1 := Lib.hid (C.out.set2 h1)
  have G1 := Lib.hid (only_set (only_refl w g) 2 (.int .i64 h1))
  generalize w.setCell ⟨g, 2, none⟩ (.int .i64 h1) = W1 at C1 G1 ⊢
  clear hc0 hc1 hc2 hf1 hf2
  have hc0 := C1.out.cell0
  have hc1 := C1.out.cell1
  have hc2 := C1.out.cell2
  go_quiet (fail)
  go_wp2
  generalize bits BinOp.xor IntKind.i64 (h1 / 8589934592) (h1 / 35184372088832) = y
  have hx := and255 y
  generalize bits BinOp.and IntKind.i64 y 255 = x at hx ⊢
  obtain ⟨hx0, hx1⟩ := hx
  have C2 := Lib.hid (C1.out.drewN nq)
  have G2 := Lib.hid (only_drewN G1.out nq)
  generalize W1.drewN nq = W2 at C2 G2 ⊢
  clear hc0 hc1 hc2 C1 G1
  have hc0 := C2.out.cell0
  have hc1 := C2.out.cell1
  by_cases hlt : k < n
  · obtain ⟨b, off, rfl, hb, hc⟩ := C2.out.bytes (by omega)
    obtain ⟨z, hz0, hz1, hz⟩ := hc k hlt
    have hf1 := C2.out.frozen 1
    clear hc
    go_quiet (fail)
    go_wp2
    go_quiet (fail)
    go_wp2
    go_ret
    exact ⟨_, _, _, and255 (x + z), rfl, (C2.out.drewN _).set1 (k + 1) (by omega) (by omega), only_set (only_drewN G2.out _) 1 _⟩
  · go_quiet (fail)
    go_wp2
    go_ret
    exact ⟨x, _, _, ⟨hx0, hx1⟩, rfl, C2.out.drewN _, only_drewN G2.out _⟩

theorem CurOut.of {P : Int → Prop} {w : World} {g : Nat} {A : Option Addr} {n cap : Nat} {x i h : Int} {w' : World} (hp : P x) (c : Cur w' g A n cap i h) (hg : w.grownBy w' (some g)) : CurOut P w g A n cap (.returned (.int .i64 x)) w' :=
  ⟨x, i, h, hp, rfl, c, hg⟩

set_option maxHeartbeats 1000000 in
theorem l1Below_any (w : World) (g : Nat) (A : Option Addr) (n cap : Nat) (i h : Int) (m : Int) (hn : n ≤ 4096) (h0 : 0 < m) (h1 : m ≤ 256) (c : Cur w g A n cap i h) :
    Calls Tryz.prog 24 #[.pointer (some ⟨g, 0, none⟩), .int .i64 m] w (CurOut (fun x => 0 ≤ x ∧ x < m) w g A n cap) := by
  have C := Lib.hid c
  clear c
  go_enter Tryz.func24, Tryz.ntmps24
  go_wp2_with fail
  refine (l1Byte_any _ g A n cap i h hn C.out).mono ?_
  rintro e w1 ⟨x, i1, g1, ⟨hx0, hx1⟩, rfl, c1, b1⟩
  have C1 := Lib.hid c1
  have B1 := Lib.hid b1
  clear c1 b1
  go_wp2
  go_ret
  exact CurOut.of ⟨Int.emod_nonneg _ (by omega), Int.emod_lt_of_pos _ h0⟩ C1.out B1.out

set_option maxHeartbeats 2000000 in
theorem l1Below_big (w : World) (g : Nat) (A : Option Addr) (n cap : Nat) (i h : Int) (m : Int) (hn : n ≤ 4096) (h0 : 256 < m) (h1 : m ≤ 1000000) (c : Cur w g A n cap i h) :
    Calls Tryz.prog 24 #[.pointer (some ⟨g, 0, none⟩), .int .i64 m] w (CurOut (fun x => 0 ≤ x ∧ x < m) w g A n cap) := by
  have C := Lib.hid c
  clear c
  go_enter Tryz.func24, Tryz.ntmps24
  go_wp2_with fail
  refine (l1Byte_any _ g A n cap i h hn C.out).mono ?_
  rintro e w1 ⟨x, i1, g1, ⟨hx0, hx1⟩, rfl, c1, b1⟩
  replace C := Lib.hid c1
  have B := Lib.hid b1
  clear c1 b1
  go_wp2_with fail
  refine (l1Byte_any _ g A n cap i1 g1 hn C.out).mono ?_
  rintro e w2 ⟨y, i2, g2, ⟨hy0, hy1⟩, rfl, c1, b1⟩
  replace C := Lib.hid c1
  replace B := Lib.hid (only_trans B.out b1)
  clear c1 b1
  go_wp2_with fail
  refine (l1Byte_any _ g A n cap i2 g2 hn C.out).mono ?_
  rintro e w3 ⟨z, i3, g3, ⟨hz0, hz1⟩, rfl, c1, b1⟩
  replace C := Lib.hid c1
  replace B := Lib.hid (only_trans B.out b1)
  clear c1 b1
  go_wp2_with fail
  refine (l1Byte_any _ g A n cap i3 g3 hn C.out).mono ?_
  rintro e w4 ⟨u, i4, g4, ⟨hu0, hu1⟩, rfl, c1, b1⟩
  replace C := Lib.hid c1
  replace B := Lib.hid (only_trans B.out b1)
  clear c1 b1
  go_wp2
  go_ret
  exact CurOut.of ⟨Int.emod_nonneg _ (by omega), Int.emod_lt_of_pos _ (by omega)⟩ C.out B.out

theorem l1Once_any (w : World) (g : Nat) (A : Option Addr) (n cap : Nat) (i h : Int) (m : Int) (hn : n ≤ 4096) (h0 : 0 < m) (h1 : m ≤ 256) (c : Cur w g A n cap i h) :
    Calls Tryz.prog 22 #[.pointer (some ⟨g, 0, none⟩), .int .i64 m] w fun e w' => ∃ (b : Bool) (i h : Int), e = .returned (.bool b) ∧ Cur w' g A n cap i h ∧ w.grownBy w' (some g) := by
  have C := Lib.hid c
  clear c
  go_enter Tryz.func22, Tryz.ntmps22
  go_wp2_with fail
  refine (l1Below_any _ g A n cap i h m hn h0 h1 C.out).mono ?_
  rintro e w1 ⟨x, i1, g1, ⟨hx0, hx1⟩, rfl, c1, b1⟩
  have C1 := Lib.hid c1
  have B1 := Lib.hid b1
  clear c1 b1
  go_wp2
  go_ret
  exact ⟨_, _, _, rfl, C1.out, B1.out⟩

theorem l1From_any (w : World) (g : Nat) (A : Option Addr) (n cap : Nat) (i h : Int) (lo hi : Int) (hn : n ≤ 4096) (hlo : -1000000 ≤ lo) (hle : lo ≤ hi) (hhi : hi ≤ 1000000) (hs : hi - lo < 256) (c : Cur w g A n cap i h) :
    Calls Tryz.prog 49 #[.pointer (some ⟨g, 0, none⟩), .int .i64 lo, .int .i64 hi] w (CurOut (fun x => lo ≤ x ∧ x ≤ hi) w g A n cap) := by
  have C := Lib.hid c
  clear c
  go_enter Tryz.func49, Tryz.ntmps49
  go_wp2_with fail
  refine (l1Below_any _ g A n cap i h (hi - lo + 1) hn (by omega) (by omega) C.out).mono ?_
  rintro e w1 ⟨x, i1, g1, ⟨hx0, hx1⟩, rfl, c1, b1⟩
  have C1 := Lib.hid c1
  have B1 := Lib.hid b1
  clear c1 b1
  go_wp2
  go_ret
  exact CurOut.of ⟨by omega, by omega⟩ C1.out B1.out

end Go.Proofs.YtchdmmlkgglmcaaGreatDoor.Tx

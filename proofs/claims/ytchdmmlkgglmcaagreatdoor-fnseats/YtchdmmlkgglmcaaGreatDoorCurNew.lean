/-
  What the model's l1New leaves: a new cursor at the beginning of the code; nothing that lay is written. Condition: the code has at most 4096 bytes.
-/
import Derived.Test.YtchdmmlkgglmcaaGreatDoorCur
namespace Go.Proofs.YtchdmmlkgglmcaaGreatDoor.Tx
open Go.RowKit

theorem and30 (x : Int) : 0 ≤ bits .and .i64 x 1073741823 ∧ bits .and .i64 x 1073741823 ≤ 1073741823 := by
  have h : bits .and .i64 x 1073741823 = IntKind.i64.wrap ((BitVec.ofInt 64 x &&& BitVec.ofInt 64 1073741823).toNat : Int) := rfl
  rw [h, BitVec.toNat_and, IntKind.wrap_i64]
  have : (BitVec.ofInt 64 x).toNat &&& (BitVec.ofInt 64 1073741823).toNat ≤ (BitVec.ofInt 64 1073741823).toNat := Nat.and_le_right
  have e : (BitVec.ofInt 64 1073741823).toNat = 1073741823 := by decide
  rw [e] at this ⊢
  omega

/-- What l1New leaves: a new cursor at the beginning. -/
def NewOut (w : World) (A : Option Addr) (n cap : Nat) (e : Ending) (w' : World) : Prop :=
  e = .returned (.pointer (some ⟨w.heap.size, 0, none⟩)) ∧ ∃ h, Cur w' w.heap.size A n cap 0 h ∧ Below w.heap.size w w'

theorem BytesAt.alloc {w : World} {A : Option Addr} {n : Nat} (h : BytesAt w w.heap.size A n) (o : Obj) : BytesAt (w.alloc o) w.heap.size A n := fun hn => by
  obtain ⟨b, off, e, hb, hc⟩ := h hn
  exact ⟨b, off, e, hb, fun j hj => by
    obtain ⟨x, h0, h1, hx⟩ := hc j hj
    exact ⟨x, h0, h1, (World.cell?_alloc_lt w o ⟨b, off + j, none⟩ hb).trans hx⟩⟩
theorem BytesAt.kept {w w' : World} {A : Option Addr} {n : Nat} (h : BytesAt w w.heap.size A n) (k : Below w.heap.size w w') : BytesAt w' w'.heap.size A n := fun hn => by
  obtain ⟨b, off, e, hb, hc⟩ := h hn
  exact ⟨b, off, e, Nat.lt_of_lt_of_le hb k.size, fun j hj => by
    obtain ⟨x, h0, h1, hx⟩ := hc j hj
    exact ⟨x, h0, h1, (k.cell (p := ⟨b, off + j, none⟩) hb).trans hx⟩⟩

set_option maxRecDepth 100000 in
set_option maxHeartbeats 1000000 in
theorem l1New_any (w : World) (A : Option Addr) (n cap : Nat) (hn : n ≤ 4096) (hb : BytesAt w w.heap.size A n) :
    Calls Tryz.prog 20 #[.slice A n cap] w (NewOut w A n cap) := by
  have HB := Lib.hid hb
  clear hb
  go_enter Tryz.func20, Tryz.ntmps20
  go_wp2
  go_loop [3, 4] (fun h i => ∃ (k : Nat) (x : Int), k ≤ n ∧ i = .int .i64 k ∧ h = .int .i64 x ∧ 0 ≤ x ∧ x ≤ 1073741823) (fun _ i => n - (intOf i).toNat)
  case atStart => exact ⟨0, _, Nat.zero_le _, rfl, rfl, by omega, by omega⟩
  case round =>
    obtain ⟨k, x, hk, rfl, rfl, hx0, hx1⟩ := hrel
    by_cases hlt : k < n
    · obtain ⟨b, off, rfl, hlb, hc⟩ := HB.out (by omega)
      obtain ⟨z, hz0, hz1, hz⟩ := hc k hlt
      clear hc
      go_wp2
      go_round
      case rel => exact ⟨k + 1, _, by omega, by go_num, rfl, (and30 _).1, (and30 _).2⟩
      case measure => simp [intOf]; omega
    · go_wp2
      go_ret
      exact ⟨rfl, x, ⟨heap_alloc_new w _, by omega, by omega, HB.out.alloc _⟩, (Below.refl _ w).alloc (Nat.le_refl _) _⟩

theorem alloc_kept {w w1 : World} {o : Obj} {g : Nat} (b : (w.alloc o).grownBy w1 (some g)) (hg : g < w.heap.size) : w1.heap[w.heap.size]? = some o :=
  (b.block w.heap.size (by simp) (by intro e; injection e with e; omega)).trans (heap_alloc_new w o)
theorem Cur.alloc {w : World} {g : Nat} {A : Option Addr} {n cap : Nat} {i h : Int} (c : Cur w g A n cap i h) (o : Obj) : Cur (w.alloc o) g A n cap i h :=
  c.below ((Below.refl (g + 1) w).alloc (by have := c.lt; omega) o)

theorem only_own {a b c : World} {g gb : Nat} (h : a.grownBy b (some g)) (k : b.grownBy c (some gb)) (hgb : a.heap.size ≤ gb) : a.grownBy c (some g) :=
  ⟨k.os.trans h.os, k.tape.trans h.tape, k.output.trans h.output, Nat.le_trans h.size k.size, fun i hi hne => (k.block i (Nat.lt_of_lt_of_le hi h.size) (by intro e; injection e with e; omega)).trans (h.block i hi hne)⟩
theorem Cur.far {w w' : World} {g gb : Nat} {A : Option Addr} {n cap : Nat} {i h : Int} (c : Cur w g A n cap i h) (k : w.grownBy w' (some gb)) (hgb : g < gb) : Cur w' g A n cap i h :=
  c.below ((Below.refl (g + 1) w).grown k (by have := c.lt; omega) (fun j e => by cases e; omega))

theorem big_any (w : World) (A : Option Addr) (n cap : Nat) : Calls Tryz.prog 4 #[.slice A n cap] w fun e w' => e = .returned (.bool (decide (4096 < n))) ∧ w = w' := by
  go_enter Tryz.func4, Tryz.ntmps4
  go_wp2
  go_ret
  exact ⟨by simp; omega, rfl⟩

end Go.Proofs.YtchdmmlkgglmcaaGreatDoor.Tx

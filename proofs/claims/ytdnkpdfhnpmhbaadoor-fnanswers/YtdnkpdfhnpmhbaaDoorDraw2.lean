/-
  What IsDraw, NextDraw and AllUnlike of the model answer, and what the model draws for chapter 2. Conditions: a list has at most 1048576 numbers; a draw's code has at most 4096 bytes.
-/
import Derived.Test.YtdnkpdfhnpmhbaaDoorIn
import Derived.Test.YtdnkpdfhnpmhbaaDoorNums
import Derived.Test.YtdnkpdfhnpmhbaaDoorCur
import Derived.Test.YtdnkpdfhnpmhbaaDoorCurNew
import Derived.Test.YtdnkpdfhnpmhbaaDoorDraws0
namespace Go.Proofs.YtdnkpdfhnpmhbaaDoor.Tx
open Go.RowKit



theorem l2Draw_any (w : World) (g : Nat) (A : Option Addr) (n cap : Nat) (i h : Int) (hn : n ≤ 4096) (c : Cur w g A n cap i h) :
    Calls Tryd.prog 42 #[.pointer (some ⟨g, 0, none⟩)] w (CurOut (fun x => 1 ≤ x ∧ x ≤ 6) w g A n cap) := by
  have C := Lib.hid c
  clear c
  go_enter Tryd.func42, Tryd.ntmps42
  go_wp2_with fail
  refine (l1Below_any _ g A n cap i h 6 hn (by omega) (by omega) C.out).mono ?_
  rintro e w1 ⟨x, i1, h1, ⟨hx0, hx1⟩, rfl, c1, b1⟩
  have C1 := Lib.hid c1
  have B1 := Lib.hid b1
  clear c1 b1
  go_wp2
  go_ret
  exact CurOut.of ⟨by omega, by omega⟩ C1.out B1.out

set_option maxHeartbeats 1000000 in
theorem l2DrawAny_any (w : World) (g : Nat) (A : Option Addr) (n cap : Nat) (i h : Int) (hn : n ≤ 4096) (c : Cur w g A n cap i h) :
    Calls Tryd.prog 22 #[.pointer (some ⟨g, 0, none⟩)] w (CurOut (fun x => -1 ≤ x ∧ x ≤ 100001) w g A n cap) := by
  have C := Lib.hid c
  clear c
  go_enter Tryd.func22, Tryd.ntmps22
  go_wp2_with fail
  refine (l1Once_any _ g A n cap i h 8 hn (by omega) (by omega) C.out).mono ?_
  rintro e w0 ⟨b, i0, h0, rfl, c0, b0⟩
  have C0 := Lib.hid c0
  have B0 := Lib.hid b0
  have hg := c0.lt
  clear c0 b0
  cases b with
  | true =>
    go_wp2_with fail
    refine (l1Below_any _ g A n cap i0 h0 5 hn (by omega) (by omega) (C0.out.alloc _)).mono ?_
    rintro e w1 ⟨x, i1, g1, ⟨hx0, hx1⟩, rfl, c1, b1⟩
    obtain ⟨k, rfl⟩ := Int.eq_ofNat_of_zero_le hx0
    have hblk := alloc_kept b1 hg
    have hcell : ∃ z : Int, w1.cell? ⟨w0.heap.size, k, none⟩ = some (.int .i64 z) ∧ -1 ≤ z ∧ z ≤ 100001 := by
      have hk : k = 0 ∨ k = 1 ∨ k = 2 ∨ k = 3 ∨ k = 4 := by omega
      rcases hk with rfl | rfl | rfl | rfl | rfl <;> exact ⟨_, by rw [World.cell?, hblk]; rfl, by decide, by decide⟩
    obtain ⟨z, hz, hz0, hz1⟩ := hcell
    have C1 := Lib.hid c1
    have B1 := Lib.hid (only_trans B0.out (only_trans (World.grownBy_alloc w0 _ (some g)) b1))
    clear c1 b1 hblk
    go_wp2
    go_ret
    exact CurOut.of ⟨hz0, hz1⟩ C1.out B1.out
  | false =>
    go_wp2_with fail
    refine (l2Draw_any _ g A n cap i0 h0 hn C0.out).mono ?_
    rintro e w1 ⟨x, i1, g1, ⟨hx0, hx1⟩, rfl, c1, b1⟩
    have C1 := Lib.hid c1
    have B1 := Lib.hid (only_trans B0.out b1)
    clear c1 b1
    go_wp2
    go_ret
    exact CurOut.of ⟨by omega, by omega⟩ C1.out B1.out



/-- A list of numbers that the call made. -/
structure MadeN (w : World) (base : Nat) (zs : List Int) (gb cb : Nat) : Prop where
  own : w.ownsRow base 2 1 (.slice (some ⟨gb, 0, none⟩) zs.length cb) zs.length (zs.map (Value.int .i64))
theorem MadeN.base {w : World} {base : Nat} {zs : List Int} {gb cb : Nat} (h : MadeN w base zs gb cb) : base ≤ gb ∧ gb < w.heap.size := h.own.lt gb rfl
theorem MadeN.kept {w w' : World} {base : Nat} {zs : List Int} {gb cb : Nat} {row : Option Nat} (h : MadeN w base zs gb cb) (hg : w.grownBy w' row) (hne : some gb ≠ row) : MadeN w' base zs gb cb := ⟨h.own.kept hg (.inr hne)⟩
theorem MadeN.alloc {w : World} {base : Nat} {zs : List Int} {gb cb : Nat} (h : MadeN w base zs gb cb) (o : Obj) : MadeN (w.alloc o) base zs gb cb := ⟨h.own.alloc o⟩
theorem MadeN.below {w w' : World} {base : Nat} {zs : List Int} {gb cb : Nat} (h : MadeN w base zs gb cb) (hb : Below w.heap.size w w') : MadeN w' base zs gb cb :=
  h.kept (row := none) ⟨hb.os, hb.tape, hb.output, hb.size, fun i hi _ => hb.block i hi⟩ (by simp)
theorem MadeN.new (w : World) : MadeN (w.alloc (.cells #[] 2)) w.heap.size [] w.heap.size 0 := ⟨World.ownsRow_made w #[] 0 (Nat.le_refl _) (Nat.zero_le _) rfl⟩
theorem MadeN.nums {w : World} {base : Nat} {zs : List Int} {gb cb : Nat} (h : MadeN w base zs gb cb) : Nums w w.heap.size (some ⟨gb, 0, none⟩) zs.length zs :=
  ⟨rfl, fun _ => ⟨gb, 0, rfl, h.base.2, fun j hj => by
    rw [Nat.zero_add, h.own.cellAt j (by omega), List.getElem?_map, List.getElem?_eq_getElem hj]
    rfl⟩⟩
theorem MadeN.snoc {w : World} {base : Nat} {zs : List Int} {x : Int} {v : Value} (h : w.ownsRow base 2 1 v (zs.length + 1) (zs.map (Value.int .i64) ++ [.int .i64 x])) :
    ∃ gb cb, v = .slice (some ⟨gb, 0, none⟩) (zs.length + 1) cb ∧ MadeN w base (zs ++ [x]) gb cb := by
  obtain ⟨gb, cb, rfl, _, _⟩ := h.form (by omega)
  refine ⟨gb, cb, rfl, ?_⟩
  constructor
  rw [List.length_append, List.map_append]
  exact h
theorem MadeN.mono {w : World} {base base' : Nat} {zs : List Int} {gb cb : Nat} (h : MadeN w base zs gb cb) (hb : base' ≤ base) : MadeN w base' zs gb cb := by
  refine ⟨⟨h.own.1, ?_⟩⟩
  rcases h.own.2 with h2 | ⟨g, cap, cur, hv, hg, r⟩
  · exact .inl h2
  · exact .inr ⟨g, cap, cur, hv, Nat.le_trans hb hg, r⟩


end Go.Proofs.YtdnkpdfhnpmhbaaDoor.Tx

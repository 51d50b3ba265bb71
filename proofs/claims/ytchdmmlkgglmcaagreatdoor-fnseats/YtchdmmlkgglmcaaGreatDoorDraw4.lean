/-
  What the helpers over a list of numbers answer: toInt64S copies it into new memory, eqInt64S compares two. Condition: the list has at most 1048576 numbers.
  What IsDraw, NextDraw and AllUnlike of the model answer, and what the model draws for chapter 2. Conditions: a list has at most 1048576 numbers; a draw's code has at most 4096 bytes.
  What the model draws for chapter 3: a key, two numbers, three numbers; nothing that lay is written but the cursor. Condition: the draw's code has at most 4096 bytes.
  What the model draws for chapter 4: a box, a key, a number. Condition: the draw's code has at most 4096 bytes.
-/
import Derived.WalkKit
import Derived.Deep.OwnRows
import Derived.ProofKit
import Derived.Deep.Draws
import Derived.Deep.QuietTactic
import Derived.BigQuiet
import Derived.Lib.Hide
import Derived.Test.YtchdmmlkgglmcaaGreatDoorProg
import Derived.Test.YtchdmmlkgglmcaaGreatDoorLow
import Derived.Test.YtchdmmlkgglmcaaGreatDoorIn
import Derived.Test.YtchdmmlkgglmcaaGreatDoorCur
import Derived.Test.YtchdmmlkgglmcaaGreatDoorCurNew
import Derived.Test.YtchdmmlkgglmcaaGreatDoorDraws0
import Derived.Test.YtchdmmlkgglmcaaGreatDoorKey
import Derived.Laws.MakeOwn
import Derived.Laws.BytesArg
import Derived.Deep.RegionHeld3
import Derived.Test.YtchdmmlkgglmcaaGreatDoorDraw1t
import Derived.Test.YtchdmmlkgglmcaaGreatDoorBox
namespace Go.Proofs.YtchdmmlkgglmcaaGreatDoor.Tx
open Go.RowKit

/-- The slice value '.slice A n _' holds the numbers zs, in a block below B (of an empty one nothing is asked). -/
def Nums (w : World) (B : Nat) (A : Option Addr) (n : Nat) (zs : List Int) : Prop :=
  zs.length = n ∧ (0 < n → ∃ b off, A = some ⟨b, off, none⟩ ∧ b < B ∧ ∀ j, j < n → w.cell? ⟨b, off + j, none⟩ = some (.int .i64 (zs[j]?.getD 0)))

theorem Nums.below {w w' : World} {B : Nat} {A : Option Addr} {n : Nat} {zs : List Int} (h : Nums w B A n zs) (hb : Below B w w') : Nums w' B A n zs :=
  ⟨h.1, fun hn => by
    obtain ⟨b, off, rfl, hlt, hc⟩ := h.2 hn
    exact ⟨b, off, rfl, hlt, fun j hj => (hb.cell (p := ⟨b, off + j, none⟩) hlt).trans (hc j hj)⟩⟩
theorem Nums.mono {w : World} {B B' : Nat} {A : Option Addr} {n : Nat} {zs : List Int} (h : Nums w B A n zs) (hB : B ≤ B') : Nums w B' A n zs :=
  ⟨h.1, fun hn => by
    obtain ⟨b, off, rfl, hlt, hc⟩ := h.2 hn
    exact ⟨b, off, rfl, by omega, hc⟩⟩
theorem Nums.of_row {w : World} {b n : Nat} {t : TypeId} {zs : List Int} (h : w.rowIs b t n (fun i => .int .i64 (zs[i]?.getD 0))) (hl : zs.length = n) : Nums w w.heap.size (some ⟨b, 0, none⟩) n zs :=
  ⟨hl, fun _ => ⟨b, 0, rfl, h.lt, fun j hj => by rw [Nat.zero_add]; exact h.cell hj⟩⟩
theorem Nums.take {w : World} {B : Nat} {A : Option Addr} {n : Nat} {zs : List Int} (h : Nums w B A n zs) (k : Nat) (hk : k ≤ n) : Nums w B A k (zs.take k) := by
  refine ⟨by rw [List.length_take, h.1]; omega, fun h0 => ?_⟩
  obtain ⟨b, off, e, hb, hc⟩ := h.2 (by omega)
  exact ⟨b, off, e, hb, fun j hj => by rw [hc j (by omega)]; simp [hj]⟩
theorem nums_nil (w : World) (B : Nat) (A : Option Addr) : Nums w B A 0 [] := ⟨rfl, fun h => absurd h (by omega)⟩
theorem nums_of_open {w : World} {a : Addr} {zs : List Int} {len : Nat} (hl : len ≤ zs.length) (hcell : ∀ i, i < zs.length → w.cell? (a.add i) = some (.int .i64 (zs.getD i 0))) :
    Nums w w.heap.size (some a) len (zs.take len) := by
  refine ⟨by simp; omega, fun hn => ?_⟩
  obtain ⟨b, off, spot⟩ := a
  have h0 := hcell 0 (by omega)
  have hspot : spot = none := by simpa [Addr.add] using World.cell?_spot h0
  subst hspot
  refine ⟨b, off, rfl, World.block_lt_of_cell? _ _ h0, fun j hj => ?_⟩
  rw [← Go.WideShapes.add_plain, hcell j (by omega)]
  simp [hj]
theorem Kp.nums {w w' : World} (h : Kp w w') {A : Option Addr} {n : Nat} {zs : List Int} (s : Nums w w.heap.size A n zs) : Nums w' w'.heap.size A n zs := (s.below h.bel).mono h.bel.size

theorem infoInt64 : (Tryz.prog.info? 2).map (fun i => (i.zero, i.size, i.bytes)) = some (some (.int .i64 0), 1, 8) := by kernel_rfl


theorem take_snocN (zs : List Int) (k : Nat) (h : k < zs.length) : zs.take (k + 1) = zs.take k ++ [zs[k]?.getD 0] := by
  rw [List.take_succ_eq_append_getElem h, List.getElem?_eq_getElem h]; rfl
theorem take_eq_succN {ss ts : List Int} {k : Nat} (h1 : k < ss.length) (h2 : k < ts.length) (h : ss.take k = ts.take k) (e : ss[k]?.getD 0 = ts[k]?.getD 0) : ss.take (k + 1) = ts.take (k + 1) := by
  rw [take_snocN ss k h1, take_snocN ts k h2, h, e]

end Go.Proofs.YtchdmmlkgglmcaaGreatDoor.Tx
namespace Go.Proofs.YtchdmmlkgglmcaaGreatDoor.Tx
open Go.RowKit



theorem l2Draw_any (w : World) (g : Nat) (A : Option Addr) (n cap : Nat) (i h : Int) (hn : n ≤ 4096) (c : Cur w g A n cap i h) :
    Calls Tryz.prog 65 #[.pointer (some ⟨g, 0, none⟩)] w (CurOut (fun x => 1 ≤ x ∧ x ≤ 6) w g A n cap) := by
  have C := Lib.hid c
  clear c
  go_enter Tryz.func65, Tryz.ntmps65
  go_wp2_with fail
  refine (l1Below_any _ g A n cap i h 6 hn (by omega) (by omega) C.out).mono ?_
  rintro e w1 ⟨x, i1, h1, ⟨hx0, hx1⟩, rfl, c1, b1⟩
  have C1 := Lib.hid c1
  have B1 := Lib.hid b1
  clear c1 b1
  go_wp2
  go_ret
  exact CurOut.of ⟨by omega, by omega⟩ C1.out B1.out

set_option maxHeartbeats 1000000 in
theorem l2DrawAny_any (w : World) (g : Nat) (A : Option Addr) (n cap : Nat) (i h : Int) (hn : n ≤ 4096) (c : Cur w g A n cap i h) :
    Calls Tryz.prog 56 #[.pointer (some ⟨g, 0, none⟩)] w (CurOut (fun x => -1 ≤ x ∧ x ≤ 100001) w g A n cap) := by
  have C := Lib.hid c
  clear c
  go_enter Tryz.func56, Tryz.ntmps56
  go_wp2_with fail
  refine (l1Once_any _ g A n cap i h 8 hn (by omega) (by omega) C.out).mono ?_
  rintro e w0 ⟨b, i0, h0, rfl, c0, b0⟩
  have C0 := Lib.hid c0
  have B0 := Lib.hid b0
  have hg := c0.lt
  clear c0 b0
  cases b with
  | true =>
    go_wp2_with fail
    refine (l1Below_any _ g A n cap i0 h0 5 hn (by omega) (by omega) (C0.out.alloc _)).mono ?_
    rintro e w1 ⟨x, i1, g1, ⟨hx0, hx1⟩, rfl, c1, b1⟩
    obtain ⟨k, rfl⟩ := Int.eq_ofNat_of_zero_le hx0
    have hblk := alloc_kept b1 hg
    have hcell : ∃ z : Int, w1.cell? ⟨w0.heap.size, k, none⟩ = some (.int .i64 z) ∧ -1 ≤ z ∧ z ≤ 100001 := by
      have hk : k = 0 ∨ k = 1 ∨ k = 2 ∨ k = 3 ∨ k = 4 := by omega
      rcases hk with rfl | rfl | rfl | rfl | rfl <;> exact ⟨_, by rw [World.cell?, hblk]; rfl, by decide, by decide⟩
    obtain ⟨z, hz, hz0, hz1⟩ := hcell
    have C1 := Lib.hid c1
    have B1 := Lib.hid (only_trans B0.out (only_trans (World.grownBy_alloc w0 _ (some g)) b1))
    clear c1 b1 hblk
    go_wp2
    go_ret
    exact CurOut.of ⟨hz0, hz1⟩ C1.out B1.out
  | false =>
    go_wp2_with fail
    refine (l2Draw_any _ g A n cap i0 h0 hn C0.out).mono ?_
    rintro e w1 ⟨x, i1, g1, ⟨hx0, hx1⟩, rfl, c1, b1⟩
    have C1 := Lib.hid c1
    have B1 := Lib.hid (only_trans B0.out b1)
    clear c1 b1
    go_wp2
    go_ret
    exact CurOut.of ⟨by omega, by omega⟩ C1.out B1.out



/-- A list of numbers that the call made. -/
structure MadeN (w : World) (base : Nat) (zs : List Int) (gb cb : Nat) : Prop where
  own : w.ownsRow base 2 1 (.slice (some ⟨gb, 0, none⟩) zs.length cb) zs.length (zs.map (Value.int .i64))
theorem MadeN.base {w : World} {base : Nat} {zs : List Int} {gb cb : Nat} (h : MadeN w base zs gb cb) : base ≤ gb ∧ gb < w.heap.size := h.own.lt gb rfl
theorem MadeN.kept {w w' : World} {base : Nat} {zs : List Int} {gb cb : Nat} {row : Option Nat} (h : MadeN w base zs gb cb) (hg : w.grownBy w' row) (hne : some gb ≠ row) : MadeN w' base zs gb cb := ⟨h.own.kept hg (.inr hne)⟩
theorem MadeN.alloc {w : World} {base : Nat} {zs : List Int} {gb cb : Nat} (h : MadeN w base zs gb cb) (o : Obj) : MadeN (w.alloc o) base zs gb cb := ⟨h.own.alloc o⟩
theorem MadeN.below {w w' : World} {base : Nat} {zs : List Int} {gb cb : Nat} (h : MadeN w base zs gb cb) (hb : Below w.heap.size w w') : MadeN w' base zs gb cb :=
  h.kept (row := none) ⟨hb.os, hb.tape, hb.output, hb.size, fun i hi _ => hb.block i hi⟩ (by simp)
theorem MadeN.new (w : World) : MadeN (w.alloc (.cells #[] 2)) w.heap.size [] w.heap.size 0 := ⟨World.ownsRow_made w #[] 0 (Nat.le_refl _) (Nat.zero_le _) rfl⟩
theorem MadeN.nums {w : World} {base : Nat} {zs : List Int} {gb cb : Nat} (h : MadeN w base zs gb cb) : Nums w w.heap.size (some ⟨gb, 0, none⟩) zs.length zs :=
  ⟨rfl, fun _ => ⟨gb, 0, rfl, h.base.2, fun j hj => by
    rw [Nat.zero_add, h.own.cellAt j (by omega), List.getElem?_map, List.getElem?_eq_getElem hj]
    rfl⟩⟩
theorem MadeN.snoc {w : World} {base : Nat} {zs : List Int} {x : Int} {v : Value} (h : w.ownsRow base 2 1 v (zs.length + 1) (zs.map (Value.int .i64) ++ [.int .i64 x])) :
    ∃ gb cb, v = .slice (some ⟨gb, 0, none⟩) (zs.length + 1) cb ∧ MadeN w base (zs ++ [x]) gb cb := by
  obtain ⟨gb, cb, rfl, _, _⟩ := h.form (by omega)
  refine ⟨gb, cb, rfl, ?_⟩
  constructor
  rw [List.length_append, List.map_append]
  exact h
theorem MadeN.mono {w : World} {base base' : Nat} {zs : List Int} {gb cb : Nat} (h : MadeN w base zs gb cb) (hb : base' ≤ base) : MadeN w base' zs gb cb := by
  refine ⟨⟨h.own.1, ?_⟩⟩
  rcases h.own.2 with h2 | ⟨g, cap, cur, hv, hg, r⟩
  · exact .inl h2
  · exact .inr ⟨g, cap, cur, hv, Nat.le_trans hb hg, r⟩


end Go.Proofs.YtchdmmlkgglmcaaGreatDoor.Tx
namespace Go.Proofs.YtchdmmlkgglmcaaGreatDoor.Tx
open Go.RowKit

/-- What a draw of a key leaves. -/
def KeyOut (w : World) (g : Nat) (A : Option Addr) (n cap : Nat) (e : Ending) (w' : World) : Prop :=
  ∃ (k : KeyV) (i h : Int), e = .returned k.val ∧ Cur w' g A n cap i h ∧ w.grownBy w' (some g)

theorem blk_kept {w w1 : World} {g b : Nat} {o : Obj} (k : w.grownBy w1 (some g)) (hb : w.heap[b]? = some o) (hne : b ≠ g) : w1.heap[b]? = some o :=
  (k.block b (Array.getElem?_eq_some_iff.1 hb).1 (by intro e; injection e with e; exact hne e)).trans hb
theorem blk_alloc {w : World} {b : Nat} {o : Obj} (o' : Obj) (hb : w.heap[b]? = some o) : (w.alloc o').heap[b]? = some o := (Below.heap_alloc w o' b (Array.getElem?_eq_some_iff.1 hb).1).trans hb
theorem blk_far {w : World} {b : Nat} {o : Obj} {p : Addr} {u : Value} (hb : w.heap[b]? = some o) (hne : b ≠ p.block) : (w.setCell p u).heap[b]? = some o := (Below.heap_setCell w p u b hne).trans hb
theorem blk_lt {w : World} {b : Nat} {o : Obj} (hb : w.heap[b]? = some o) : b < w.heap.size := (Array.getElem?_eq_some_iff.1 hb).1
theorem blk_set {w : World} {b i : Nat} {cs : Array Value} {t : TypeId} (hb : w.heap[b]? = some (.cells cs t (0, 0))) (u : Value) : (w.setCell ⟨b, i, none⟩ u).heap[b]? = some (.cells (cs.setIfInBounds i u) t (0, 0)) := by
  simp [World.setCell, Array.getElem?_modify, hb]
theorem Cur.farSet {w : World} {g : Nat} {A : Option Addr} {n cap : Nat} {i h : Int} (c : Cur w g A n cap i h) {p : Addr} (hp : g < p.block) (u : Value) : Cur (w.setCell p u) g A n cap i h :=
  c.below ((Below.refl (g + 1) w).setCell (p := p) hp u)
theorem only_setNew {a w : World} {g : Nat} (h : a.grownBy w (some g)) {p : Addr} (hp : a.heap.size ≤ p.block) (u : Value) : a.grownBy (w.setCell p u) (some g) :=
  ⟨h.os, h.tape, h.output, by simpa [World.setCell] using h.size, fun i hi hne => (Below.heap_setCell w p u i (by omega)).trans (h.block i hi hne)⟩
theorem only_set4 {a w : World} {g r : Nat} (h : a.grownBy w (some g)) (hr : a.heap.size ≤ r) (v0 v1 v2 v3 : Value) :
    a.grownBy ((((w.setCell ⟨r, 0, none⟩ v0).setCell ⟨r, 1, none⟩ v1).setCell ⟨r, 2, none⟩ v2).setCell ⟨r, 3, none⟩ v3) (some g) :=
  only_setNew (only_setNew (only_setNew (only_setNew h (p := ⟨r, 0, none⟩) hr v0) (p := ⟨r, 1, none⟩) hr v1) (p := ⟨r, 2, none⟩) hr v2) (p := ⟨r, 3, none⟩) hr v3
theorem Cur.far4 {w : World} {g r : Nat} {A : Option Addr} {n cap : Nat} {i h : Int} (c : Cur w g A n cap i h) (hr : g < r) (v0 v1 v2 v3 : Value) :
    Cur ((((w.setCell ⟨r, 0, none⟩ v0).setCell ⟨r, 1, none⟩ v1).setCell ⟨r, 2, none⟩ v2).setCell ⟨r, 3, none⟩ v3) g A n cap i h :=
  (((c.farSet (p := ⟨r, 0, none⟩) hr v0).farSet (p := ⟨r, 1, none⟩) hr v1).farSet (p := ⟨r, 2, none⟩) hr v2).farSet (p := ⟨r, 3, none⟩) hr v3

/-- A key's result: the block r holds it; the end of a function that returns a key. -/
theorem key_ret {R : Ending → World → Prop} {fn : Func} {a : Act} {w : World} {r : Nat} {x0 x1 x2 x3 : Value} {ku ks kh ka : Int} {p : Tmp} (hres : fn.results = #[.cell p 25]) (hp : a.tmps[p]?.getD undef = .pointer (some ⟨r, 0, none⟩))
    (hblk : w.heap[r]? = some (.cells #[x0, x1, x2, x3] 25 (0, 0))) (hd : a.defers = [])
    (h : R (.returned (KeyV.val ⟨ku, ks, kh, ka⟩)) ((((w.setCell ⟨r, 0, none⟩ (.int .i64 ku)).setCell ⟨r, 1, none⟩ (.int .i64 ks)).setCell ⟨r, 2, none⟩ (.int .i64 kh)).setCell ⟨r, 3, none⟩ (.int .i64 ka))) :
    bodyPost Tryz.prog fn R .ret a ((((w.setCell ⟨r, 0, none⟩ (.int .i64 ku)).setCell ⟨r, 1, none⟩ (.int .i64 ks)).setCell ⟨r, 2, none⟩ (.int .i64 kh)).setCell ⟨r, 3, none⟩ (.int .i64 ka)) := by
  obtain ⟨⟨b0, b1, b2, b3⟩, _⟩ := blk4 hblk
  obtain ⟨s0, s1, s2, s3⟩ := set4_cell (w := w) (g := r) (fun i hi => by match i, hi with | 0, _ => rw [b0]; rfl | 1, _ => rw [b1]; rfl | 2, _ => rw [b2]; rfl | 3, _ => rw [b3]; rfl) (.int .i64 ku) (.int .i64 ks) (.int .i64 kh) (.int .i64 ka)
  refine bodyPost_ret (v := KeyV.val ⟨ku, ks, kh, ka⟩) ?_ hd h
  simp [results, hres, hp, go_sem, s0, s1, s2, s3, KeyV.val]

set_option maxHeartbeats 2000000 in
theorem l3Draw_any (w : World) (g : Nat) (A : Option Addr) (n cap : Nat) (i h : Int) (hn : n ≤ 4096) (c : Cur w g A n cap i h) :
    Calls Tryz.prog 68 #[.pointer (some ⟨g, 0, none⟩)] w (KeyOut w g A n cap) := by
  have C := Lib.hid c
  have hg := c.lt
  clear c
  go_enter Tryz.func68, Tryz.ntmps68
  go_wp2_with fail
  refine (l1Below_any _ g A n cap i h 6 hn (by omega) (by omega) (C.out.alloc _)).mono ?_
  rintro e w1 ⟨x, i1, h1, ⟨hx0, hx1⟩, rfl, c1, b1⟩
  have R1 := Lib.hid (blk_kept b1 (heap1 w _) (by omega))
  have G1 := Lib.hid (only_trans (World.grownBy_alloc w _ (some g)) b1)
  have C1 := Lib.hid c1
  clear c1 b1 C
  go_wp2_with fail
  refine (l1Below_any _ g A n cap i1 h1 4 hn (by omega) (by omega) C1.out).mono ?_
  rintro e w2 ⟨y, i2, h2, ⟨hy0, hy1⟩, rfl, c2, b2⟩
  have R2 := Lib.hid (blk_kept b2 R1.out (by omega))
  have G2 := Lib.hid (only_trans G1.out b2)
  have C2 := Lib.hid c2
  clear c2 b2 C1 R1 G1
  go_wp2_with fail
  refine (l2Draw_any _ g A n cap i2 h2 hn C2.out).mono ?_
  rintro e w3 ⟨z, i3, h3, ⟨hz0, hz1⟩, rfl, c3, b3⟩
  have R3 := Lib.hid (blk_kept b3 R2.out (by omega))
  have G3 := Lib.hid (only_trans G2.out b3)
  have C3 := Lib.hid c3
  have hs3 := G3.out.size
  have hr3 := blk_lt R3.out
  clear c3 b3 C2 R2 G2
  by_cases h6 : x = 5
  · subst h6
    go_wp2_with fail
    refine (l1In_b _ _ _ _).mono ?_
    rintro e w' ⟨rfl, rfl⟩
    have CK := Lib.hid (C3.out.alloc (.cells #[.int .i64 6, .int .i64 y, .int .i64 0, .int .i64 0] 25))
    have GK := Lib.hid (only_alloc G3.out (.cells #[.int .i64 6, .int .i64 y, .int .i64 0, .int .i64 0] 25))
    have RK := Lib.hid (blk_alloc (.cells #[.int .i64 6, .int .i64 y, .int .i64 0, .int .i64 0] 25) R3.out)
    rw [show inB 6 3 5 = false from inB_no (by omega)]
    have KK := Lib.hid (heap1 w3 (.cells #[.int .i64 6, .int .i64 y, .int .i64 0, .int .i64 0] 25))
    generalize w3.alloc (.cells #[.int .i64 6, .int .i64 y, .int .i64 0, .int .i64 0] 25) = wk at CK GK RK KK ⊢
    obtain ⟨⟨r0, r1, r2, r3⟩, t0, t1, t2, t3⟩ := blk4 RK.out
    obtain ⟨⟨k0, k1, k2, k3⟩, _⟩ := blk4 KK.out
    clear C3 G3
    go_wp2
    refine key_ret (x0 := .int .i64 0) (x1 := .int .i64 0) (x2 := .int .i64 0) (x3 := .int .i64 0) (p := 2) ?_ ?_ RK.out ?_ ?_
    · rfl
    · rfl
    · rfl
    · exact ⟨_, i3, h3, rfl, CK.out.far4 (by omega) _ _ _ _, only_set4 GK.out (Nat.le_refl _) _ _ _ _⟩
  · have h6b : (1 + x == 6) = false := bne_int (by omega)
    have CK := Lib.hid (C3.out.alloc (.cells #[.int .i64 (1 + x), .int .i64 y, .int .i64 z, .int .i64 0] 25))
    have GK := Lib.hid (only_alloc G3.out (.cells #[.int .i64 (1 + x), .int .i64 y, .int .i64 z, .int .i64 0] 25))
    have RK := Lib.hid (blk_alloc (.cells #[.int .i64 (1 + x), .int .i64 y, .int .i64 z, .int .i64 0] 25) R3.out)
    clear C3 G3
    go_wp2_with fail
    refine (l1In_b _ _ _ _).mono ?_
    rintro e w' ⟨rfl, rfl⟩
    have KK := Lib.hid (heap1 w3 (.cells #[.int .i64 (1 + x), .int .i64 y, .int .i64 z, .int .i64 0] 25))
    generalize w3.alloc (.cells #[.int .i64 (1 + x), .int .i64 y, .int .i64 z, .int .i64 0] 25) = wk at CK GK RK KK ⊢
    cases hin : inB (1 + x) 3 5 with
    | false =>
      obtain ⟨⟨r0, r1, r2, r3⟩, t0, t1, t2, t3⟩ := blk4 RK.out
      obtain ⟨⟨k0, k1, k2, k3⟩, _⟩ := blk4 KK.out
      go_wp2
      refine key_ret (x0 := .int .i64 0) (x1 := .int .i64 0) (x2 := .int .i64 0) (x3 := .int .i64 0) (p := 2) ?_ ?_ RK.out ?_ ?_
      · rfl
      · rfl
      · rfl
      · exact ⟨_, i3, h3, rfl, CK.out.far4 (by omega) _ _ _ _, only_set4 GK.out (Nat.le_refl _) _ _ _ _⟩
    | true =>
      go_wp2_with fail
      refine (l2Draw_any _ g A n cap i3 h3 hn CK.out).mono ?_
      rintro e w4 ⟨z2, i4, h4, ⟨_, _⟩, rfl, c4, b4⟩
      have R4 := Lib.hid (blk_kept b4 RK.out (by omega))
      have K4 := Lib.hid (blk_kept b4 KK.out (by omega))
      have G4 := Lib.hid (only_trans GK.out b4)
      have C4 := Lib.hid c4
      obtain ⟨⟨q0, q1, q2, q3⟩, u0, u1, u2, u3⟩ := blk4 R4.out
      obtain ⟨⟨k0, k1, k2, k3⟩, f0, f1, f2, f3⟩ := blk4 K4.out
      clear c4 b4 CK GK RK KK
      go_wp2
      refine key_ret (x0 := .int .i64 0) (x1 := .int .i64 0) (x2 := .int .i64 0) (x3 := .int .i64 0) (p := 2) ?_ ?_ (blk_far R4.out (by show w.heap.size ≠ w3.heap.size; omega)) ?_ ?_
      · rfl
      · rfl
      · rfl
      · exact ⟨_, i4, h4, rfl, (C4.out.farSet (p := ⟨w3.heap.size, 3, none⟩) (by show g < w3.heap.size; omega) _).far4 (by omega) _ _ _ _, only_set4 (only_setNew G4.out (p := ⟨w3.heap.size, 3, none⟩) (by show w.heap.size ≤ w3.heap.size; omega) _) (Nat.le_refl _) _ _ _ _⟩

set_option maxHeartbeats 4000000 in
theorem l3DrawAny_any (w : World) (g : Nat) (A : Option Addr) (n cap : Nat) (i h : Int) (hn : n ≤ 4096) (c : Cur w g A n cap i h) :
    Calls Tryz.prog 52 #[.pointer (some ⟨g, 0, none⟩)] w (KeyOut w g A n cap) := by
  have C := Lib.hid c
  have hg := c.lt
  clear c
  go_enter Tryz.func52, Tryz.ntmps52
  go_wp2_with fail
  refine (l3Draw_any _ g A n cap i h hn (C.out.alloc _)).mono ?_
  rintro e w1 ⟨⟨ku, ks, kh, ka⟩, i1, h1, rfl, c1, b1⟩
  have hs1 := b1.size
  simp only [World.size_alloc] at hs1
  have R1 := Lib.hid (blk_alloc (.cells #[.int .i64 ku, .int .i64 ks, .int .i64 kh, .int .i64 ka] 25) (blk_kept b1 (heap1 w _) (by omega)))
  have G1 := Lib.hid (only_alloc (only_trans (World.grownBy_alloc w _ (some g)) b1) (.cells #[.int .i64 ku, .int .i64 ks, .int .i64 kh, .int .i64 ka] 25))
  have C1 := Lib.hid (c1.alloc (.cells #[.int .i64 ku, .int .i64 ks, .int .i64 kh, .int .i64 ka] 25))
  have K1 := Lib.hid (heap1 w1 (.cells #[.int .i64 ku, .int .i64 ks, .int .i64 kh, .int .i64 ka] 25))
  clear c1 b1 C
  unfold KeyV.val
  go_wp2_with fail
  obtain ⟨kb, hkb⟩ : ∃ kb, kb = w1.heap.size := ⟨_, rfl⟩
  have hkw : w.heap.size < kb := by omega
  rw [← hkb] at K1 ⊢
  generalize w1.alloc (.cells #[.int .i64 ku, .int .i64 ks, .int .i64 kh, .int .i64 ka] 25) = wk at R1 G1 C1 K1 ⊢
  clear hkb hs1
  refine (l1Once_any _ g A n cap i1 h1 8 hn (by omega) (by omega) C1.out).mono ?_
  rintro e w2 ⟨b, i2, h2, rfl, c2, b2⟩
  have R2 := Lib.hid (blk_kept b2 R1.out (by omega))
  have K2 := Lib.hid (blk_kept b2 K1.out (by omega))
  have G2 := Lib.hid (only_trans G1.out b2)
  have C2 := Lib.hid c2
  clear c2 b2 R1 K1 G1 C1
  cases b with
  | false =>
    obtain ⟨⟨r0, r1, r2, r3⟩, t0, t1, t2, t3⟩ := blk4 R2.out
    obtain ⟨⟨k0, k1, k2, k3⟩, f0, f1, f2, f3⟩ := blk4 K2.out
    go_wp2
    refine key_ret (x0 := .int .i64 0) (x1 := .int .i64 0) (x2 := .int .i64 0) (x3 := .int .i64 0) (p := 2) ?_ ?_ R2.out ?_ ?_
    · rfl
    · rfl
    · rfl
    · exact ⟨_, i2, h2, rfl, C2.out.far4 (by omega) _ _ _ _, only_set4 G2.out (Nat.le_refl _) _ _ _ _⟩
  | true =>
    go_wp2_with fail
    refine (l1Below_any _ g A n cap i2 h2 4 hn (by omega) (by omega) C2.out).mono ?_
    rintro e w3 ⟨x, i3, h3, ⟨hx0, hx1⟩, rfl, c3, b3⟩
    have R3 := Lib.hid (blk_kept b3 R2.out (by omega))
    have K3 := Lib.hid (blk_kept b3 K2.out (by omega))
    have G3 := Lib.hid (only_trans G2.out b3)
    have C3 := Lib.hid c3
    clear c3 b3 R2 K2 G2 C2
    by_cases h0 : x = 0
    · have hx0 : x = 0 := by omega
      subst hx0
      go_wp2_with fail
      refine (l1From_any _ g A n cap i3 h3 (-1) 7 hn (by omega) (by omega) (by omega) (by omega) C3.out).mono ?_
      rintro e w4 ⟨y, i4, h4, ⟨_, _⟩, rfl, c4, b4⟩
      have R4 := Lib.hid (blk_kept b4 R3.out (by omega))
      have K4 := Lib.hid (blk_kept b4 K3.out (by omega))
      have G4 := Lib.hid (only_trans G3.out b4)
      have C4 := Lib.hid c4
      obtain ⟨⟨r0, r1, r2, r3⟩, t0, t1, t2, t3⟩ := blk4 R4.out
      obtain ⟨⟨k0, k1, k2, k3⟩, f0, f1, f2, f3⟩ := blk4 K4.out
      clear c4 b4 R3 K3 G3 C3
      go_wp2
      refine key_ret (x0 := .int .i64 0) (x1 := .int .i64 0) (x2 := .int .i64 0) (x3 := .int .i64 0) (p := 2) ?_ ?_ (blk_far R4.out (by show w.heap.size ≠ kb; omega)) ?_ ?_
      · rfl
      · rfl
      · rfl
      · exact ⟨_, i4, h4, rfl, (C4.out.farSet (p := ⟨kb, 0, none⟩) (by show g < kb; omega) _).far4 (by omega) _ _ _ _, only_set4 (only_setNew G4.out (p := ⟨kb, 0, none⟩) (by show w.heap.size ≤ kb; omega) _) (Nat.le_refl _) _ _ _ _⟩
    · by_cases h1' : x = 1
      · have hx1 : x = 1 := by omega
        subst hx1
        go_wp2_with fail
        refine (l2DrawAny_any _ g A n cap i3 h3 hn C3.out).mono ?_
        rintro e w4 ⟨y, i4, h4, ⟨_, _⟩, rfl, c4, b4⟩
        have R4 := Lib.hid (blk_kept b4 R3.out (by omega))
        have K4 := Lib.hid (blk_kept b4 K3.out (by omega))
        have G4 := Lib.hid (only_trans G3.out b4)
        have C4 := Lib.hid c4
        obtain ⟨⟨r0, r1, r2, r3⟩, t0, t1, t2, t3⟩ := blk4 R4.out
        obtain ⟨⟨k0, k1, k2, k3⟩, f0, f1, f2, f3⟩ := blk4 K4.out
        clear c4 b4 R3 K3 G3 C3
        go_wp2
        refine key_ret (x0 := .int .i64 0) (x1 := .int .i64 0) (x2 := .int .i64 0) (x3 := .int .i64 0) (p := 2) ?_ ?_ (blk_far R4.out (by show w.heap.size ≠ kb; omega)) ?_ ?_
        · rfl
        · rfl
        · rfl
        · exact ⟨_, i4, h4, rfl, (C4.out.farSet (p := ⟨kb, 1, none⟩) (by show g < kb; omega) _).far4 (by omega) _ _ _ _, only_set4 (only_setNew G4.out (p := ⟨kb, 1, none⟩) (by show w.heap.size ≤ kb; omega) _) (Nat.le_refl _) _ _ _ _⟩
      · by_cases h2' : x = 2
        · have hx2 : x = 2 := by omega
          subst hx2
          go_wp2_with fail
          refine (l2DrawAny_any _ g A n cap i3 h3 hn C3.out).mono ?_
          rintro e w4 ⟨y, i4, h4, ⟨_, _⟩, rfl, c4, b4⟩
          have R4 := Lib.hid (blk_kept b4 R3.out (by omega))
          have K4 := Lib.hid (blk_kept b4 K3.out (by omega))
          have G4 := Lib.hid (only_trans G3.out b4)
          have C4 := Lib.hid c4
          obtain ⟨⟨r0, r1, r2, r3⟩, t0, t1, t2, t3⟩ := blk4 R4.out
          obtain ⟨⟨k0, k1, k2, k3⟩, f0, f1, f2, f3⟩ := blk4 K4.out
          clear c4 b4 R3 K3 G3 C3
          go_wp2
          refine key_ret (x0 := .int .i64 0) (x1 := .int .i64 0) (x2 := .int .i64 0) (x3 := .int .i64 0) (p := 2) ?_ ?_ (blk_far R4.out (by show w.heap.size ≠ kb; omega)) ?_ ?_
          · rfl
          · rfl
          · rfl
          · exact ⟨_, i4, h4, rfl, (C4.out.farSet (p := ⟨kb, 2, none⟩) (by show g < kb; omega) _).far4 (by omega) _ _ _ _, only_set4 (only_setNew G4.out (p := ⟨kb, 2, none⟩) (by show w.heap.size ≤ kb; omega) _) (Nat.le_refl _) _ _ _ _⟩
        · have hx3 : x = 3 := by omega
          subst hx3
          go_wp2_with fail
          refine (l2DrawAny_any _ g A n cap i3 h3 hn C3.out).mono ?_
          rintro e w4 ⟨y, i4, h4, ⟨_, _⟩, rfl, c4, b4⟩
          have R4 := Lib.hid (blk_kept b4 R3.out (by omega))
          have K4 := Lib.hid (blk_kept b4 K3.out (by omega))
          have G4 := Lib.hid (only_trans G3.out b4)
          have C4 := Lib.hid c4
          obtain ⟨⟨r0, r1, r2, r3⟩, t0, t1, t2, t3⟩ := blk4 R4.out
          obtain ⟨⟨k0, k1, k2, k3⟩, f0, f1, f2, f3⟩ := blk4 K4.out
          clear c4 b4 R3 K3 G3 C3
          go_wp2
          refine key_ret (x0 := .int .i64 0) (x1 := .int .i64 0) (x2 := .int .i64 0) (x3 := .int .i64 0) (p := 2) ?_ ?_ (blk_far R4.out (by show w.heap.size ≠ kb; omega)) ?_ ?_
          · rfl
          · rfl
          · rfl
          · exact ⟨_, i4, h4, rfl, (C4.out.farSet (p := ⟨kb, 3, none⟩) (by show g < kb; omega) _).far4 (by omega) _ _ _ _, only_set4 (only_setNew G4.out (p := ⟨kb, 3, none⟩) (by show w.heap.size ≤ kb; omega) _) (Nat.le_refl _) _ _ _ _⟩




end Go.Proofs.YtchdmmlkgglmcaaGreatDoor.Tx
namespace Go.Proofs.YtchdmmlkgglmcaaGreatDoor.Tx
open Go.RowKit

theorem only_setAll {a : World} {g r : Nat} (hr : a.heap.size ≤ r) : ∀ (vs : List Value) (k : Nat) {w : World}, a.grownBy w (some g) → a.grownBy (setAll w r k vs) (some g)
  | [], _, _, h => h
  | v :: rest, k, _, h => only_setAll hr rest (k + 1) (only_setNew h (p := ⟨r, k, none⟩) hr v)
theorem Cur.farAll {g r : Nat} {A : Option Addr} {n cap : Nat} {i h : Int} (hr : g < r) : ∀ (vs : List Value) (k : Nat) {w : World}, Cur w g A n cap i h → Cur (setAll w r k vs) g A n cap i h
  | [], _, _, c => c
  | v :: rest, k, _, c => Cur.farAll hr rest (k + 1) (c.farSet (p := ⟨r, k, none⟩) hr v)

/-- What a draw of a box leaves. -/
def BoxOut (w : World) (g : Nat) (A : Option Addr) (n cap : Nat) (e : Ending) (w' : World) : Prop :=
  ∃ (b : BoxV) (i h : Int), e = .returned b.val ∧ Cur w' g A n cap i h ∧ w.grownBy w' (some g)

set_option maxHeartbeats 2000000 in
theorem l4Draw_any (w : World) (g : Nat) (A : Option Addr) (n cap : Nat) (i h : Int) (hn : n ≤ 4096) (c : Cur w g A n cap i h) :
    Calls Tryz.prog 51 #[.pointer (some ⟨g, 0, none⟩)] w (BoxOut w g A n cap) := by
  have C := Lib.hid c
  have hg := c.lt
  clear c
  go_enter Tryz.func51, Tryz.ntmps51
  go_wp2_with fail
  refine (l3Draw_any _ g A n cap i h hn (C.out.alloc _)).mono ?_
  rintro e w1 ⟨⟨ku, ks, kh, ka⟩, i1, h1, rfl, c1, b1⟩
  have R1 := Lib.hid (blk_kept b1 (heap1 w _) (by omega))
  have G1 := Lib.hid (only_trans (World.grownBy_alloc w _ (some g)) b1)
  have C1 := Lib.hid c1
  clear c1 b1 C
  unfold KeyV.val
  go_wp2_with fail
  refine (l1Below_any _ g A n cap i1 h1 4 hn (by omega) (by omega) C1.out).mono ?_
  rintro e w2 ⟨y, i2, h2, ⟨hy0, hy1⟩, rfl, c2, b2⟩
  have R2 := Lib.hid (blk_kept b2 R1.out (by omega))
  have G2 := Lib.hid (only_trans G1.out b2)
  have C2 := Lib.hid c2
  clear c2 b2 C1 R1 G1
  go_wp2_with fail
  refine (l1DrawText_any _ g A n cap i2 h2 hn C2.out).mono ?_
  rintro e w3 ⟨s, i3, h3, hs, rfl, c3, b3⟩
  have R3 := Lib.hid (blk_kept b3 R2.out (by omega))
  have G3 := Lib.hid (only_trans G2.out b3)
  have C3 := Lib.hid c3
  clear c3 b3 C2 R2 G2 hs
  go_wp2_with fail
  refine (l1Once_any _ g A n cap i3 h3 8 hn (by omega) (by omega) C3.out).mono ?_
  rintro e w4 ⟨b, i4, h4, rfl, c4, b4⟩
  have R4 := Lib.hid (blk_kept b4 R3.out (by omega))
  have G4 := Lib.hid (only_trans G3.out b4)
  have C4 := Lib.hid c4
  clear c4 b4 C3 R3 G3
  obtain ⟨⟨a0, a1, a2, a3, a4, a5, a6⟩, q0, q1, q2, q3, q4, q5, q6⟩ := blk7 R4.out
  go_wp2
  exact row_ret (cs := (BoxV.cells ⟨⟨ku, ks, kh, ka⟩, y, s, b⟩).toArray) rfl rfl (setAll_whole (vs := BoxV.cells ⟨⟨ku, ks, kh, ka⟩, y, s, b⟩) R4.out rfl) Tryz.underlying32 rfl (by kernel_rfl) rfl
    ⟨⟨⟨ku, ks, kh, ka⟩, y, s, b⟩, i4, h4, rfl, Cur.farAll hg (BoxV.cells ⟨⟨ku, ks, kh, ka⟩, y, s, b⟩) 0 C4.out, only_setAll (Nat.le_refl _) (BoxV.cells ⟨⟨ku, ks, kh, ka⟩, y, s, b⟩) 0 G4.out⟩

/-- A slice of n bytes 0 in new memory, and the string of it. -/
theorem made_byte (n j : Nat) (h : j < n) : (madeCells #[.int .u8 0] n)[j]? = some (.int .u8 0) := by
  simp [madeCells, h, Nat.mod_one]
theorem make_bytes (n : Nat) (hn : n ≤ 1000) (w : World) : (Instr.makeSlice 22 (.int .i64 (n : Int)) (.int .i64 (n : Int))).run Tryz.prog w = .ok (.slice (some ⟨w.heap.size, 0, none⟩) n n) (w.alloc (.cells (madeCells #[.int .u8 0] n) 5)) := by
  obtain ⟨i, hi⟩ := Option.isSome_iff_exists.1 (show (Tryz.prog.info? 5).isSome = true by kernel_rfl)
  have hz : i.zero = some (.int .u8 0) := by
    have h : (Tryz.prog.info? 5).bind (·.zero) = some (.int .u8 0) := by kernel_rfl
    rw [hi] at h; exact h
  have hs : i.size = 1 := by
    have h : (Tryz.prog.info? 5).map (·.size) = some 1 := by kernel_rfl
    rw [hi] at h; simpa using h
  have hb : i.bytes = 1 := by
    have h : (Tryz.prog.info? 5).map (·.bytes) = some 1 := by kernel_rfl
    rw [hi] at h; simpa using h
  have := run_make (P := Tryz.prog) w 22 5 i _ Tryz.underlying22 hi hz .i64 .i64 n n (by omega) (Int.le_refl _) (by rw [hb]; omega) (by omega)
  simpa [hs, Value.cells] using this
theorem conv_bytes (n : Nat) (w : World) : (convert 22 9 (.slice (some ⟨w.heap.size, 0, none⟩) n n)).run Tryz.prog (w.alloc (.cells (madeCells #[.int .u8 0] n) 5)) = .ok (.string (strOfNums (List.replicate n 0))) (w.alloc (.cells (madeCells #[.int .u8 0] n) 5)) :=
  run_convert_bytes_arg _ 22 5 Tryz.underlying22 Tryz.underlying5 w.heap.size 0 n n (List.replicate n 0) (by simp) (fun j hj => by
    rw [Nat.zero_add, blk_cell (heap1 w _), made_byte n j hj]
    simp [List.getD, hj]) 9 Tryz.underlying9

set_option maxHeartbeats 4000000 in
theorem l4DrawAny_any (w : World) (g : Nat) (A : Option Addr) (n cap : Nat) (i h : Int) (hn : n ≤ 4096) (c : Cur w g A n cap i h) :
    Calls Tryz.prog 23 #[.pointer (some ⟨g, 0, none⟩)] w (BoxOut w g A n cap) := by
  have C := Lib.hid c
  have hg := c.lt
  clear c
  go_enter Tryz.func23, Tryz.ntmps23
  go_wp2_with fail
  refine (l4Draw_any _ g A n cap i h hn (C.out.alloc _)).mono ?_
  rintro e w1 ⟨⟨⟨ku, ks, kh, ka⟩, y, s, sp⟩, i1, h1, rfl, c1, b1⟩
  have R1 := Lib.hid (blk_kept b1 (heap1 w _) (by omega))
  have G1 := Lib.hid (only_trans (World.grownBy_alloc w _ (some g)) b1)
  have hr1 := blk_in R1.out
  have CK := Lib.hid (c1.alloc (.cells #[.int .i64 ku, .int .i64 ks, .int .i64 kh, .int .i64 ka, .int .i64 y, .string s, .bool sp] 32))
  have GK := Lib.hid (only_alloc G1.out (.cells #[.int .i64 ku, .int .i64 ks, .int .i64 kh, .int .i64 ka, .int .i64 y, .string s, .bool sp] 32))
  have RK := Lib.hid (alloc_blk (o := .cells #[.int .i64 ku, .int .i64 ks, .int .i64 kh, .int .i64 ka, .int .i64 y, .string s, .bool sp] 32) R1.out)
  have KK := Lib.hid (heap1 w1 (.cells #[.int .i64 ku, .int .i64 ks, .int .i64 kh, .int .i64 ka, .int .i64 y, .string s, .bool sp] 32))
  clear c1 b1 C R1 G1
  have HV : Hid (BoxV.val ⟨⟨ku, ks, kh, ka⟩, y, s, sp⟩ = .agg #[.int .i64 ku, .int .i64 ks, .int .i64 kh, .int .i64 ka, .int .i64 y, .string s, .bool sp]) := rfl
  rw [HV.out]
  obtain ⟨wk, hwk⟩ : ∃ W, w1.alloc (.cells #[.int .i64 ku, .int .i64 ks, .int .i64 kh, .int .i64 ka, .int .i64 y, .string s, .bool sp] 32) = W := ⟨_, rfl⟩
  rw [hwk] at CK GK RK KK
  go_wp2_with fail
  clear hwk
  refine (l1Once_any _ g A n cap i1 h1 8 hn (by omega) (by omega) CK.out).mono ?_
  rintro e w2 ⟨o, i2, h2, rfl, c2, b2⟩
  have R2 := Lib.hid (blk_kept b2 RK.out (by omega))
  have K2 := Lib.hid (blk_kept b2 KK.out (by omega))
  have G2 := Lib.hid (only_trans GK.out b2)
  have C2 := Lib.hid c2
  clear c2 b2 CK GK RK KK
  cases o with
  | false =>
    obtain ⟨⟨a0, a1, a2, a3, a4, a5, a6⟩, q0, q1, q2, q3, q4, q5, q6⟩ := blk7 R2.out
    obtain ⟨⟨d0, d1, d2, d3, d4, d5, d6⟩, _⟩ := blk7 K2.out
    go_wp2
    exact row_ret (cs := (BoxV.cells ⟨⟨ku, ks, kh, ka⟩, y, s, sp⟩).toArray) rfl rfl (setAll_whole (vs := BoxV.cells ⟨⟨ku, ks, kh, ka⟩, y, s, sp⟩) R2.out rfl) Tryz.underlying32 rfl (by kernel_rfl) rfl
      ⟨⟨⟨ku, ks, kh, ka⟩, y, s, sp⟩, i2, h2, rfl, Cur.farAll hg (BoxV.cells ⟨⟨ku, ks, kh, ka⟩, y, s, sp⟩) 0 C2.out, only_setAll (Nat.le_refl _) (BoxV.cells ⟨⟨ku, ks, kh, ka⟩, y, s, sp⟩) 0 G2.out⟩
  | true =>
    go_wp2_with fail
    refine (l1Below_any _ g A n cap i2 h2 3 hn (by omega) (by omega) C2.out).mono ?_
    rintro e w3 ⟨x, i3, h3, ⟨hx0, hx1⟩, rfl, c3, b3⟩
    have R3 := Lib.hid (blk_kept b3 R2.out (by omega))
    have K3 := Lib.hid (blk_kept b3 K2.out (by omega))
    have G3 := Lib.hid (only_trans G2.out b3)
    have C3 := Lib.hid c3
    clear c3 b3 R2 K2 G2 C2
    have hx : x = 0 ∨ x = 1 ∨ x = 2 := by omega
    rcases hx with rfl | rfl | rfl
    · go_wp2_with fail
      refine (l3DrawAny_any _ g A n cap i3 h3 hn C3.out).mono ?_
      rintro e w4 ⟨⟨ju, js, jh, ja⟩, i4, h4, rfl, c4, b4⟩
      have R4 := Lib.hid (blk_kept b4 R3.out (by omega))
      have K4 := Lib.hid (blk_kept b4 K3.out (by omega))
      have G4 := Lib.hid (only_trans G3.out b4)
      have C4 := Lib.hid c4
      clear c4 b4 R3 K3 G3 C3
      obtain ⟨⟨a0, a1, a2, a3, a4, a5, a6⟩, q0, q1, q2, q3, q4, q5, q6⟩ := blk7 R4.out
      obtain ⟨⟨d0, d1, d2, d3, d4, d5, d6⟩, f0, f1, f2, f3, f4, f5, f6⟩ := blk7 K4.out
      unfold KeyV.val
      go_wp2
      exact row_ret (cs := (BoxV.cells ⟨⟨ju, js, jh, ja⟩, y, s, sp⟩).toArray) rfl rfl (setAll_whole (vs := BoxV.cells ⟨⟨ju, js, jh, ja⟩, y, s, sp⟩) (setAll_away (g := w1.heap.size) (by omega) [.int .i64 ju, .int .i64 js, .int .i64 jh, .int .i64 ja] 0 R4.out) rfl) Tryz.underlying32 rfl (by kernel_rfl) rfl
        ⟨⟨⟨ju, js, jh, ja⟩, y, s, sp⟩, i4, h4, rfl, Cur.farAll hg (BoxV.cells ⟨⟨ju, js, jh, ja⟩, y, s, sp⟩) 0 (Cur.farAll (r := w1.heap.size) (by omega) [.int .i64 ju, .int .i64 js, .int .i64 jh, .int .i64 ja] 0 C4.out), only_setAll (Nat.le_refl _) (BoxV.cells ⟨⟨ju, js, jh, ja⟩, y, s, sp⟩) 0 (only_setAll (r := w1.heap.size) (by omega) [.int .i64 ju, .int .i64 js, .int .i64 jh, .int .i64 ja] 0 G4.out)⟩
    · go_wp2_with fail
      refine (l1Below_any _ g A n cap i3 h3 3 hn (by omega) (by omega) (C3.out.alloc _)).mono ?_
      rintro e w4 ⟨v, i4, h4, ⟨hv0, hv1⟩, rfl, c4, b4⟩
      have L4 := Lib.hid (blk_kept b4 (heap1 w3 _) (by have := C3.out.lt; omega))
      have R4 := Lib.hid (blk_kept b4 (alloc_blk R3.out) (by omega))
      have K4 := Lib.hid (blk_kept b4 (alloc_blk K3.out) (by omega))
      have G4 := Lib.hid (only_trans (only_alloc G3.out _) b4)
      have C4 := Lib.hid c4
      clear c4 b4 R3 K3 G3 C3
      obtain ⟨m, rfl⟩ := Int.eq_ofNat_of_zero_le hv0
      obtain ⟨z, hz⟩ : ∃ z : Int, w4.cell? ⟨w3.heap.size, m, none⟩ = some (.int .i64 z) := by
        rw [blk_cell L4.out]
        have hm : m = 0 ∨ m = 1 ∨ m = 2 := by omega
        rcases hm with rfl | rfl | rfl <;> exact ⟨_, rfl⟩
      obtain ⟨⟨a0, a1, a2, a3, a4, a5, a6⟩, q0, q1, q2, q3, q4, q5, q6⟩ := blk7 R4.out
      obtain ⟨⟨d0, d1, d2, d3, d4, d5, d6⟩, f0, f1, f2, f3, f4, f5, f6⟩ := blk7 K4.out
      go_wp2
      exact row_ret (cs := (BoxV.cells ⟨⟨ku, ks, kh, ka⟩, z, s, sp⟩).toArray) rfl rfl (setAll_whole (vs := BoxV.cells ⟨⟨ku, ks, kh, ka⟩, z, s, sp⟩) (setAll_away (g := w1.heap.size) (by omega) [.int .i64 z] 4 R4.out) rfl) Tryz.underlying32 rfl (by kernel_rfl) rfl
        ⟨⟨⟨ku, ks, kh, ka⟩, z, s, sp⟩, i4, h4, rfl, Cur.farAll hg (BoxV.cells ⟨⟨ku, ks, kh, ka⟩, z, s, sp⟩) 0 (Cur.farAll (r := w1.heap.size) (by omega) [.int .i64 z] 4 C4.out), only_setAll (Nat.le_refl _) (BoxV.cells ⟨⟨ku, ks, kh, ka⟩, z, s, sp⟩) 0 (only_setAll (r := w1.heap.size) (by omega) [.int .i64 z] 4 G4.out)⟩
    · go_wp2_with fail
      refine (l1Below_any _ g A n cap i3 h3 2 hn (by omega) (by omega) C3.out).mono ?_
      rintro e w4 ⟨v, i4, h4, ⟨hv0, hv1⟩, rfl, c4, b4⟩
      have R4 := Lib.hid (blk_kept b4 R3.out (by omega))
      have K4 := Lib.hid (blk_kept b4 K3.out (by omega))
      have G4 := Lib.hid (only_trans G3.out b4)
      have C4 := Lib.hid c4
      have hk4 := blk_in K4.out
      clear c4 b4 R3 K3 G3 C3
      have hv : v = 0 ∨ v = 1 := by omega
      rcases hv with rfl | rfl
      · obtain ⟨W5, hW5⟩ : ∃ W, W = w4.alloc (.cells (madeCells #[.int .u8 0] 40) 5) := ⟨_, rfl⟩
        have mk : (Instr.makeSlice 22 (.int .i64 40) (.int .i64 40)).run Tryz.prog w4 = .ok (.slice (some ⟨w4.heap.size, 0, none⟩) 40 40) W5 := hW5 ▸ make_bytes 40 (by omega) w4
        have cv : (convert 22 9 (.slice (some ⟨w4.heap.size, 0, none⟩) 40 40)).run Tryz.prog W5 = .ok (.string (strOfNums (List.replicate 40 0))) W5 := hW5 ▸ conv_bytes 40 w4
        have R5 : Hid (W5.heap[w.heap.size]? = some _) := hW5 ▸ alloc_blk R4.out
        have K5 : Hid (W5.heap[w1.heap.size]? = some _) := hW5 ▸ alloc_blk K4.out
        have G5 : Hid (w.grownBy W5 (some g)) := hW5 ▸ only_alloc G4.out _
        have C5 : Hid (Cur W5 g A n cap i4 h4) := hW5 ▸ C4.out.alloc _
        clear hW5 R4 K4 G4 C4
        obtain ⟨⟨a0, a1, a2, a3, a4, a5, a6⟩, q0, q1, q2, q3, q4, q5, q6⟩ := blk7 R5.out
        obtain ⟨⟨d0, d1, d2, d3, d4, d5, d6⟩, f0, f1, f2, f3, f4, f5, f6⟩ := blk7 K5.out
        generalize strOfNums (List.replicate 40 0) = z at cv
        go_wp2
        exact row_ret (cs := (BoxV.cells ⟨⟨ku, ks, kh, ka⟩, y, z, sp⟩).toArray) rfl rfl (setAll_whole (vs := BoxV.cells ⟨⟨ku, ks, kh, ka⟩, y, z, sp⟩) (setAll_away (g := w1.heap.size) (by omega) [.string z] 5 R5.out) rfl) Tryz.underlying32 rfl (by kernel_rfl) rfl
          ⟨⟨⟨ku, ks, kh, ka⟩, y, z, sp⟩, i4, h4, rfl, Cur.farAll hg (BoxV.cells ⟨⟨ku, ks, kh, ka⟩, y, z, sp⟩) 0 (Cur.farAll (r := w1.heap.size) (by omega) [.string z] 5 C5.out), only_setAll (Nat.le_refl _) (BoxV.cells ⟨⟨ku, ks, kh, ka⟩, y, z, sp⟩) 0 (only_setAll (r := w1.heap.size) (by omega) [.string z] 5 G5.out)⟩
      · obtain ⟨W5, hW5⟩ : ∃ W, W = w4.alloc (.cells (madeCells #[.int .u8 0] 41) 5) := ⟨_, rfl⟩
        have mk : (Instr.makeSlice 22 (.int .i64 41) (.int .i64 41)).run Tryz.prog w4 = .ok (.slice (some ⟨w4.heap.size, 0, none⟩) 41 41) W5 := hW5 ▸ make_bytes 41 (by omega) w4
        have cv : (convert 22 9 (.slice (some ⟨w4.heap.size, 0, none⟩) 41 41)).run Tryz.prog W5 = .ok (.string (strOfNums (List.replicate 41 0))) W5 := hW5 ▸ conv_bytes 41 w4
        have R5 : Hid (W5.heap[w.heap.size]? = some _) := hW5 ▸ alloc_blk R4.out
        have K5 : Hid (W5.heap[w1.heap.size]? = some _) := hW5 ▸ alloc_blk K4.out
        have G5 : Hid (w.grownBy W5 (some g)) := hW5 ▸ only_alloc G4.out _
        have C5 : Hid (Cur W5 g A n cap i4 h4) := hW5 ▸ C4.out.alloc _
        clear hW5 R4 K4 G4 C4
        obtain ⟨⟨a0, a1, a2, a3, a4, a5, a6⟩, q0, q1, q2, q3, q4, q5, q6⟩ := blk7 R5.out
        obtain ⟨⟨d0, d1, d2, d3, d4, d5, d6⟩, f0, f1, f2, f3, f4, f5, f6⟩ := blk7 K5.out
        generalize strOfNums (List.replicate 41 0) = z at cv
        go_wp2
        exact row_ret (cs := (BoxV.cells ⟨⟨ku, ks, kh, ka⟩, y, z, sp⟩).toArray) rfl rfl (setAll_whole (vs := BoxV.cells ⟨⟨ku, ks, kh, ka⟩, y, z, sp⟩) (setAll_away (g := w1.heap.size) (by omega) [.string z] 5 R5.out) rfl) Tryz.underlying32 rfl (by kernel_rfl) rfl
          ⟨⟨⟨ku, ks, kh, ka⟩, y, z, sp⟩, i4, h4, rfl, Cur.farAll hg (BoxV.cells ⟨⟨ku, ks, kh, ka⟩, y, z, sp⟩) 0 (Cur.farAll (r := w1.heap.size) (by omega) [.string z] 5 C5.out), only_setAll (Nat.le_refl _) (BoxV.cells ⟨⟨ku, ks, kh, ka⟩, y, z, sp⟩) 0 (only_setAll (r := w1.heap.size) (by omega) [.string z] 5 G5.out)⟩



end Go.Proofs.YtchdmmlkgglmcaaGreatDoor.Tx

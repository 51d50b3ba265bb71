/-
  What the helpers over a list of numbers answer: toInt64S copies it into new memory, eqInt64S compares two. Condition: the list has at most 1048576 numbers.
  What IsDraw, NextDraw and AllUnlike of the model answer, and what the model draws for chapter 2. Conditions: a list has at most 1048576 numbers; a draw's code has at most 4096 bytes.
  What the model draws for chapter 3: a key, two numbers, three numbers; nothing that lay is written but the cursor. Condition: the draw's code has at most 4096 bytes.
  What the model draws for chapter 4: a box, a key, a number. Condition: the draw's code has at most 4096 bytes.
-/
import Derived.WalkKit
import Derived.Deep.OwnRows
import Derived.ProofKit
import Derived.Deep.Draws
import Derived.Deep.QuietTactic
import Derived.BigQuiet
import Derived.Lib.Hide
import Derived.Test.YtchdmmlkgglmcaaDoorProg
import Derived.Test.YtchdmmlkgglmcaaDoorLow
import Derived.Test.YtchdmmlkgglmcaaDoorIn
import Derived.Test.YtchdmmlkgglmcaaDoorCur
import Derived.Test.YtchdmmlkgglmcaaDoorCurNew
import Derived.Test.YtchdmmlkgglmcaaDoorDraws0
import Derived.Test.YtchdmmlkgglmcaaDoorKey
import Derived.Laws.MakeOwn
import Derived.Laws.BytesArg
import Derived.Deep.RegionHeld3
import Derived.Test.YtchdmmlkgglmcaaDoorDraw1t
import Derived.Test.YtchdmmlkgglmcaaDoorBox
namespace Go.Proofs.YtchdmmlkgglmcaaDoor.Tx
open Go.RowKit

/-- The slice value '.slice A n _' holds the numbers zs, in a block below B (of an empty one nothing is asked). -/
def Nums (w : World) (B : Nat) (A : Option Addr) (n : Nat) (zs : List Int) : Prop :=
  zs.length = n ∧ (0 < n → ∃ b off, A = some ⟨b, off, none⟩ ∧ b < B ∧ ∀ j, j < n → w.cell? ⟨b, off + j, none⟩ = some (.int .i64 (zs[j]?.getD 0)))

theorem Nums.below {w w' : World} {B : Nat} {A : Option Addr} {n : Nat} {zs : List Int} (h : Nums w B A n zs) (hb : Below B w w') : Nums w' B A n zs :=
  ⟨h.1, fun hn => by
    obtain ⟨b, off, rfl, hlt, hc⟩ := h.2 hn
    exact ⟨b, off, rfl, hlt, fun j hj => (hb.cell (p := ⟨b, off + j, none⟩) hlt).trans (hc j hj)⟩⟩
theorem Nums.mono {w : World} {B B' : Nat} {A : Option Addr} {n : Nat} {zs : List Int} (h : Nums w B A n zs) (hB : B ≤ B') : Nums w B' A n zs :=
  ⟨h.1, fun hn => by
    obtain ⟨b, off, rfl, hlt, hc⟩ := h.2 hn
    exact ⟨b, off, rfl, by omega, hc⟩⟩
theorem Nums.of_row {w : World} {b n : Nat} {t : TypeId} {zs : List Int} (h : w.rowIs b t n (fun i => .int .i64 (zs[i]?.getD 0))) (hl : zs.length = n) : Nums w w.heap.size (some ⟨b, 0, none⟩) n zs :=
  ⟨hl, fun _ => ⟨b, 0, rfl, h.lt, fun j hj => by rw [Nat.zero_add]; exact h.cell hj⟩⟩
theorem Nums.take {w : World} {B : Nat} {A : Option Addr} {n : Nat} {zs : List Int} (h : Nums w B A n zs) (k : Nat) (hk : k ≤ n) : Nums w B A k (zs.take k) := by
  refine ⟨by rw [List.length_take, h.1]; omega, fun h0 => ?_⟩
  obtain ⟨b, off, e, hb, hc⟩ := h.2 (by omega)
  exact ⟨b, off, e, hb, fun j hj => by rw [hc j (by omega)]; simp [hj]⟩
theorem nums_nil (w : World) (B : Nat) (A : Option Addr) : Nums w B A 0 [] := ⟨rfl, fun h => absurd h (by omega)⟩
theorem nums_of_open {w : World} {a : Addr} {zs : List Int} {len : Nat} (hl : len ≤ zs.length) (hcell : ∀ i, i < zs.length → w.cell? (a.add i) = some (.int .i64 (zs.getD i 0))) :
    Nums w w.heap.size (some a) len (zs.take len) := by
  refine ⟨by simp; omega, fun hn => ?_⟩
  obtain ⟨b, off, spot⟩ := a
  have h0 := hcell 0 (by omega)
  have hspot : spot = none := by simpa [Addr.add] using World.cell?_spot h0
  subst hspot
  refine ⟨b, off, rfl, World.block_lt_of_cell? _ _ h0, fun j hj => ?_⟩
  rw [← Go.WideShapes.add_plain, hcell j (by omega)]
  simp [hj]
theorem Kp.nums {w w' : World} (h : Kp w w') {A : Option Addr} {n : Nat} {zs : List Int} (s : Nums w w.heap.size A n zs) : Nums w' w'.heap.size A n zs := (s.below h.bel).mono h.bel.size

theorem infoInt64 : (Tryd.prog.info? 2).map (fun i => (i.zero, i.size, i.bytes)) = some (some (.int .i64 0), 1, 8) := by kernel_rfl


theorem take_snocN (zs : List Int) (k : Nat) (h : k < zs.length) : zs.take (k + 1) = zs.take k ++ [zs[k]?.getD 0] := by
  rw [List.take_succ_eq_append_getElem h, List.getElem?_eq_getElem h]; rfl
theorem take_eq_succN {ss ts : List Int} {k : Nat} (h1 : k < ss.length) (h2 : k < ts.length) (h : ss.take k = ts.take k) (e : ss[k]?.getD 0 = ts[k]?.getD 0) : ss.take (k + 1) = ts.take (k + 1) := by
  rw [take_snocN ss k h1, take_snocN ts k h2, h, e]

end Go.Proofs.YtchdmmlkgglmcaaDoor.Tx
namespace Go.Proofs.YtchdmmlkgglmcaaDoor.Tx
open Go.RowKit



theorem l2Draw_any (w : World) (g : Nat) (A : Option Addr) (n cap : Nat) (i h : Int) (hn : n ≤ 4096) (c : Cur w g A n cap i h) :
    Calls Tryd.prog 79 #[.pointer (some ⟨g, 0, none⟩)] w (CurOut (fun x => 1 ≤ x ∧ x ≤ 6) w g A n cap) := by
  have C := Lib.hid c
  clear c
  go_enter Tryd.func79, Tryd.ntmps79
  go_wp2_with fail
  refine (l1Below_any _ g A n cap i h 6 hn (by omega) (by omega) C.out).mono ?_
  rintro e w1 ⟨x, i1, h1, ⟨hx0, hx1⟩, rfl, c1, b1⟩
  have C1 := Lib.hid c1
  have B1 := Lib.hid b1
  clear c1 b1
  go_wp2
  go_ret
  exact CurOut.of ⟨by omega, by omega⟩ C1.out B1.out

set_option maxHeartbeats 1000000 in
theorem l2DrawAny_any (w : World) (g : Nat) (A : Option Addr) (n cap : Nat) (i h : Int) (hn : n ≤ 4096) (c : Cur w g A n cap i h) :
    Calls Tryd.prog 58 #[.pointer (some ⟨g, 0, none⟩)] w (CurOut (fun x => -1 ≤ x ∧ x ≤ 100001) w g A n cap) := by
  have C := Lib.hid c
  clear c
  go_enter Tryd.func58, Tryd.ntmps58
  go_wp2_with fail
  refine (l1Once_any _ g A n cap i h 8 hn (by omega) (by omega) C.out).mono ?_
  rintro e w0 ⟨b, i0, h0, rfl, c0, b0⟩
  have C0 := Lib.hid c0
  have B0 := Lib.hid b0
  have hg := c0.lt
  clear c0 b0
  cases b with
  | true =>
    go_wp2_with fail
    refine (l1Below_any _ g A n cap i0 h0 5 hn (by omega) (by omega) (C0.out.alloc _)).mono ?_
    rintro e w1 ⟨x, i1, g1, ⟨hx0, hx1⟩, rfl, c1, b1⟩
    obtain ⟨k, rfl⟩ := Int.eq_ofNat_of_zero_le hx0
    have hblk := alloc_kept b1 hg
    have hcell : ∃ z : Int, w1.cell? ⟨w0.heap.size, k, none⟩ = some (.int .i64 z) ∧ -1 ≤ z ∧ z ≤ 100001 := by
      have hk : k = 0 ∨ k = 1 ∨ k = 2 ∨ k = 3 ∨ k = 4 := by omega
      rcases hk with rfl | rfl | rfl | rfl | rfl <;> exact ⟨_, by rw [World.cell?, hblk]; rfl, by decide, by decide⟩
    obtain ⟨z, hz, hz0, hz1⟩ := hcell
    have C1 := Lib.hid c1
    have B1 := Lib.hid (only_trans B0.out (only_trans (World.grownBy_alloc w0 _ (some g)) b1))
    clear c1 b1 hblk
    go_wp2
    go_ret
    exact CurOut.of ⟨hz0, hz1⟩ C1.out B1.out
  | false =>
    go_wp2_with fail
    refine (l2Draw_any _ g A n cap i0 h0 hn C0.out).mono ?_
    rintro e w1 ⟨x, i1, g1, ⟨hx0, hx1⟩, rfl, c1, b1⟩
    have C1 := Lib.hid c1
    have B1 := Lib.hid (only_trans B0.out b1)
    clear c1 b1
    go_wp2
    go_ret
    exact CurOut.of ⟨by omega, by omega⟩ C1.out B1.out


set_option maxHeartbeats 1000000 in
theorem pick_any (w : World) (A : Option Addr) (n cap : Nat) (seed m : Int) (hn : n ≤ 4096) (hb : BytesAt w w.heap.size A n) (hs0 : 0 ≤ seed) (hs1 : seed ≤ 1000) (hm0 : 0 < m) (hm1 : m ≤ 1000000) :
    Calls Tryd.prog 13 #[.slice A n cap, .int .i64 seed, .int .i64 m] w fun e w' => (∃ x : Int, 0 ≤ x ∧ x < m ∧ e = .returned (.int .i64 x)) ∧ w = w' := by
  have HB := Lib.hid hb
  clear hb
  go_enter Tryd.func13, Tryd.ntmps13
  go_wp2
  go_loop [7, 8] (fun x i => ∃ (k : Nat) (y : Int), k ≤ n ∧ i = .int .i64 k ∧ x = .int .i64 y ∧ 0 ≤ y ∧ y ≤ 10000000) (fun _ i => n - (intOf i).toNat)
  case atStart => exact ⟨0, _, Nat.zero_le _, rfl, rfl, by omega, by omega⟩
  case round =>
    obtain ⟨k, y, hk, rfl, rfl, hy0, hy1⟩ := hrel
    by_cases hlt : k < n
    · obtain ⟨b, off, rfl, hlb, hc⟩ := HB.out (by omega)
      obtain ⟨z, hz0, hz1, hz⟩ := hc k hlt
      clear hc
      go_wp2
      go_round
      case rel => exact ⟨k + 1, _, by omega, by go_num, rfl, by omega, by omega⟩
      case measure => simp [intOf]; omega
    · go_wp2
      go_ret
      exact ⟨⟨y % m, Int.emod_nonneg _ (by omega), Int.emod_lt_of_pos _ hm0, rfl⟩, rfl⟩

/-- A list of numbers that the call made. -/
structure MadeN (w : World) (base : Nat) (zs : List Int) (gb cb : Nat) : Prop where
  own : w.ownsRow base 2 1 (.slice (some ⟨gb, 0, none⟩) zs.length cb) zs.length (zs.map (Value.int .i64))
theorem MadeN.base {w : World} {base : Nat} {zs : List Int} {gb cb : Nat} (h : MadeN w base zs gb cb) : base ≤ gb ∧ gb < w.heap.size := h.own.lt gb rfl
theorem MadeN.kept {w w' : World} {base : Nat} {zs : List Int} {gb cb : Nat} {row : Option Nat} (h : MadeN w base zs gb cb) (hg : w.grownBy w' row) (hne : some gb ≠ row) : MadeN w' base zs gb cb := ⟨h.own.kept hg (.inr hne)⟩
theorem MadeN.alloc {w : World} {base : Nat} {zs : List Int} {gb cb : Nat} (h : MadeN w base zs gb cb) (o : Obj) : MadeN (w.alloc o) base zs gb cb := ⟨h.own.alloc o⟩
theorem MadeN.below {w w' : World} {base : Nat} {zs : List Int} {gb cb : Nat} (h : MadeN w base zs gb cb) (hb : Below w.heap.size w w') : MadeN w' base zs gb cb :=
  h.kept (row := none) ⟨hb.os, hb.tape, hb.output, hb.size, fun i hi _ => hb.block i hi⟩ (by simp)
theorem MadeN.new (w : World) : MadeN (w.alloc (.cells #[] 2)) w.heap.size [] w.heap.size 0 := ⟨World.ownsRow_made w #[] 0 (Nat.le_refl _) (Nat.zero_le _) rfl⟩
theorem MadeN.nums {w : World} {base : Nat} {zs : List Int} {gb cb : Nat} (h : MadeN w base zs gb cb) : Nums w w.heap.size (some ⟨gb, 0, none⟩) zs.length zs :=
  ⟨rfl, fun _ => ⟨gb, 0, rfl, h.base.2, fun j hj => by
    rw [Nat.zero_add, h.own.cellAt j (by omega), List.getElem?_map, List.getElem?_eq_getElem hj]
    rfl⟩⟩
theorem MadeN.snoc {w : World} {base : Nat} {zs : List Int} {x : Int} {v : Value} (h : w.ownsRow base 2 1 v (zs.length + 1) (zs.map (Value.int .i64) ++ [.int .i64 x])) :
    ∃ gb cb, v = .slice (some ⟨gb, 0, none⟩) (zs.length + 1) cb ∧ MadeN w base (zs ++ [x]) gb cb := by
  obtain ⟨gb, cb, rfl, _, _⟩ := h.form (by omega)
  refine ⟨gb, cb, rfl, ?_⟩
  constructor
  rw [List.length_append, List.map_append]
  exact h
theorem MadeN.mono {w : World} {base base' : Nat} {zs : List Int} {gb cb : Nat} (h : MadeN w base zs gb cb) (hb : base' ≤ base) : MadeN w base' zs gb cb := by
  refine ⟨⟨h.own.1, ?_⟩⟩
  rcases h.own.2 with h2 | ⟨g, cap, cur, hv, hg, r⟩
  · exact .inl h2
  · exact .inr ⟨g, cap, cur, hv, Nat.le_trans hb hg, r⟩


end Go.Proofs.YtchdmmlkgglmcaaDoor.Tx
namespace Go.Proofs.YtchdmmlkgglmcaaDoor.Tx
open Go.RowKit

/-- What a draw of a key leaves. -/
def KeyOut (w : World) (g : Nat) (A : Option Addr) (n cap : Nat) (e : Ending) (w' : World) : Prop :=
  ∃ (k : KeyV) (i h : Int), e = .returned k.val ∧ Cur w' g A n cap i h ∧ w.grownBy w' (some g)

theorem blk_kept {w w1 : World} {g b : Nat} {o : Obj} (k : w.grownBy w1 (some g)) (hb : w.heap[b]? = some o) (hne : b ≠ g) : w1.heap[b]? = some o :=
  (k.block b (Array.getElem?_eq_some_iff.1 hb).1 (by intro e; injection e with e; exact hne e)).trans hb
theorem blk_alloc {w : World} {b : Nat} {o : Obj} (o' : Obj) (hb : w.heap[b]? = some o) : (w.alloc o').heap[b]? = some o := (Below.heap_alloc w o' b (Array.getElem?_eq_some_iff.1 hb).1).trans hb
theorem blk_far {w : World} {b : Nat} {o : Obj} {p : Addr} {u : Value} (hb : w.heap[b]? = some o) (hne : b ≠ p.block) : (w.setCell p u).heap[b]? = some o := (Below.heap_setCell w p u b hne).trans hb
theorem blk_lt {w : World} {b : Nat} {o : Obj} (hb : w.heap[b]? = some o) : b < w.heap.size := (Array.getElem?_eq_some_iff.1 hb).1
theorem blk_set {w : World} {b i : Nat} {cs : Array Value} {t : TypeId} (hb : w.heap[b]? = some (.cells cs t (0, 0))) (u : Value) : (w.setCell ⟨b, i, none⟩ u).heap[b]? = some (.cells (cs.setIfInBounds i u) t (0, 0)) := by
  simp [World.setCell, Array.getElem?_modify, hb]
theorem Cur.farSet {w : World} {g : Nat} {A : Option Addr} {n cap : Nat} {i h : Int} (c : Cur w g A n cap i h) {p : Addr} (hp : g < p.block) (u : Value) : Cur (w.setCell p u) g A n cap i h :=
  c.below ((Below.refl (g + 1) w).setCell (p := p) hp u)
theorem only_setNew {a w : World} {g : Nat} (h : a.grownBy w (some g)) {p : Addr} (hp : a.heap.size ≤ p.block) (u : Value) : a.grownBy (w.setCell p u) (some g) :=
  ⟨h.os, h.tape, h.output, by simpa [World.setCell] using h.size, fun i hi hne => (Below.heap_setCell w p u i (by omega)).trans (h.block i hi hne)⟩
theorem only_set4 {a w : World} {g r : Nat} (h : a.grownBy w (some g)) (hr : a.heap.size ≤ r) (v0 v1 v2 v3 : Value) :
    a.grownBy ((((w.setCell ⟨r, 0, none⟩ v0).setCell ⟨r, 1, none⟩ v1).setCell ⟨r, 2, none⟩ v2).setCell ⟨r, 3, none⟩ v3) (some g) :=
  only_setNew (only_setNew (only_setNew (only_setNew h (p := ⟨r, 0, none⟩) hr v0) (p := ⟨r, 1, none⟩) hr v1) (p := ⟨r, 2, none⟩) hr v2) (p := ⟨r, 3, none⟩) hr v3
theorem Cur.far4 {w : World} {g r : Nat} {A : Option Addr} {n cap : Nat} {i h : Int} (c : Cur w g A n cap i h) (hr : g < r) (v0 v1 v2 v3 : Value) :
    Cur ((((w.setCell ⟨r, 0, none⟩ v0).setCell ⟨r, 1, none⟩ v1).setCell ⟨r, 2, none⟩ v2).setCell ⟨r, 3, none⟩ v3) g A n cap i h :=
  (((c.farSet (p := ⟨r, 0, none⟩) hr v0).farSet (p := ⟨r, 1, none⟩) hr v1).farSet (p := ⟨r, 2, none⟩) hr v2).farSet (p := ⟨r, 3, none⟩) hr v3

/-- A key's result: the block r holds it; the end of a function that returns a key. -/
theorem key_ret {R : Ending → World → Prop} {fn : Func} {a : Act} {w : World} {r : Nat} {x0 x1 x2 x3 : Value} {ku ks kh ka : Int} {p : Tmp} (hres : fn.results = #[.cell p 27]) (hp : a.tmps[p]?.getD undef = .pointer (some ⟨r, 0, none⟩))
    (hblk : w.heap[r]? = some (.cells #[x0, x1, x2, x3] 27 (0, 0))) (hd : a.defers = [])
    (h : R (.returned (KeyV.val ⟨ku, ks, kh, ka⟩)) ((((w.setCell ⟨r, 0, none⟩ (.int .i64 ku)).setCell ⟨r, 1, none⟩ (.int .i64 ks)).setCell ⟨r, 2, none⟩ (.int .i64 kh)).setCell ⟨r, 3, none⟩ (.int .i64 ka))) :
    bodyPost Tryd.prog fn R .ret a ((((w.setCell ⟨r, 0, none⟩ (.int .i64 ku)).setCell ⟨r, 1, none⟩ (.int .i64 ks)).setCell ⟨r, 2, none⟩ (.int .i64 kh)).setCell ⟨r, 3, none⟩ (.int .i64 ka)) := by
  obtain ⟨⟨b0, b1, b2, b3⟩, _⟩ := blk4 hblk
  obtain ⟨s0, s1, s2, s3⟩ := set4_cell (w := w) (g := r) (fun i hi => by match i, hi with | 0, _ => rw [b0]; rfl | 1, _ => rw [b1]; rfl | 2, _ => rw [b2]; rfl | 3, _ => rw [b3]; rfl) (.int .i64 ku) (.int .i64 ks) (.int .i64 kh) (.int .i64 ka)
  refine bodyPost_ret (v := KeyV.val ⟨ku, ks, kh, ka⟩) ?_ hd h
  simp [results, hres, hp, go_sem, s0, s1, s2, s3, KeyV.val]

end Go.Proofs.YtchdmmlkgglmcaaDoor.Tx
namespace Go.Proofs.YtchdmmlkgglmcaaDoor.Tx
open Go.RowKit

theorem only_setAll {a : World} {g r : Nat} (hr : a.heap.size ≤ r) : ∀ (vs : List Value) (k : Nat) {w : World}, a.grownBy w (some g) → a.grownBy (setAll w r k vs) (some g)
  | [], _, _, h => h
  | v :: rest, k, _, h => only_setAll hr rest (k + 1) (only_setNew h (p := ⟨r, k, none⟩) hr v)
theorem Cur.farAll {g r : Nat} {A : Option Addr} {n cap : Nat} {i h : Int} (hr : g < r) : ∀ (vs : List Value) (k : Nat) {w : World}, Cur w g A n cap i h → Cur (setAll w r k vs) g A n cap i h
  | [], _, _, c => c
  | v :: rest, k, _, c => Cur.farAll hr rest (k + 1) (c.farSet (p := ⟨r, k, none⟩) hr v)

/-- What a draw of a box leaves. -/
def BoxOut (w : World) (g : Nat) (A : Option Addr) (n cap : Nat) (e : Ending) (w' : World) : Prop :=
  ∃ (b : BoxV) (i h : Int), e = .returned b.val ∧ Cur w' g A n cap i h ∧ w.grownBy w' (some g)

/-- A slice of n bytes 0 in new memory, and the string of it. -/
theorem made_byte (n j : Nat) (h : j < n) : (madeCells #[.int .u8 0] n)[j]? = some (.int .u8 0) := by
  simp [madeCells, h, Nat.mod_one]
theorem make_bytes (n : Nat) (hn : n ≤ 1000) (w : World) : (Instr.makeSlice 22 (.int .i64 (n : Int)) (.int .i64 (n : Int))).run Tryd.prog w = .ok (.slice (some ⟨w.heap.size, 0, none⟩) n n) (w.alloc (.cells (madeCells #[.int .u8 0] n) 5)) := by
  obtain ⟨i, hi⟩ := Option.isSome_iff_exists.1 (show (Tryd.prog.info? 5).isSome = true by kernel_rfl)
  have hz : i.zero = some (.int .u8 0) := by
    have h : (Tryd.prog.info? 5).bind (·.zero) = some (.int .u8 0) := by kernel_rfl
    rw [hi] at h; exact h
  have hs : i.size = 1 := by
    have h : (Tryd.prog.info? 5).map (·.size) = some 1 := by kernel_rfl
    rw [hi] at h; simpa using h
  have hb : i.bytes = 1 := by
    have h : (Tryd.prog.info? 5).map (·.bytes) = some 1 := by kernel_rfl
    rw [hi] at h; simpa using h
  have := run_make (P := Tryd.prog) w 22 5 i _ Tryd.underlying22 hi hz .i64 .i64 n n (by omega) (Int.le_refl _) (by rw [hb]; omega) (by omega)
  simpa [hs, Value.cells] using this
theorem conv_bytes (n : Nat) (w : World) : (convert 22 9 (.slice (some ⟨w.heap.size, 0, none⟩) n n)).run Tryd.prog (w.alloc (.cells (madeCells #[.int .u8 0] n) 5)) = .ok (.string (strOfNums (List.replicate n 0))) (w.alloc (.cells (madeCells #[.int .u8 0] n) 5)) :=
  run_convert_bytes_arg _ 22 5 Tryd.underlying22 Tryd.underlying5 w.heap.size 0 n n (List.replicate n 0) (by simp) (fun j hj => by
    rw [Nat.zero_add, blk_cell (heap1 w _), made_byte n j hj]
    simp [List.getD, hj]) 9 Tryd.underlying9

end Go.Proofs.YtchdmmlkgglmcaaDoor.Tx

/-
  What the model draws for chapter 3: a key, two numbers, three numbers; nothing that lay is written but the cursor. Condition: the draw's code has at most 4096 bytes.
-/
import Derived.Test.YtdnkpdfhnpmhbaaDoorKey
import Derived.Test.YtdnkpdfhnpmhbaaDoorDraw2
namespace Go.Proofs.YtdnkpdfhnpmhbaaDoor.Tx
open Go.RowKit

/-- What a draw of a key leaves. -/
def KeyOut (w : World) (g : Nat) (A : Option Addr) (n cap : Nat) (e : Ending) (w' : World) : Prop :=
  ∃ (k : KeyV) (i h : Int), e = .returned k.val ∧ Cur w' g A n cap i h ∧ w.grownBy w' (some g)

theorem blk_kept {w w1 : World} {g b : Nat} {o : Obj} (k : w.grownBy w1 (some g)) (hb : w.heap[b]? = some o) (hne : b ≠ g) : w1.heap[b]? = some o :=
  (k.block b (Array.getElem?_eq_some_iff.1 hb).1 (by intro e; injection e with e; exact hne e)).trans hb
theorem blk_alloc {w : World} {b : Nat} {o : Obj} (o' : Obj) (hb : w.heap[b]? = some o) : (w.alloc o').heap[b]? = some o := (Below.heap_alloc w o' b (Array.getElem?_eq_some_iff.1 hb).1).trans hb
theorem blk_far {w : World} {b : Nat} {o : Obj} {p : Addr} {u : Value} (hb : w.heap[b]? = some o) (hne : b ≠ p.block) : (w.setCell p u).heap[b]? = some o := (Below.heap_setCell w p u b hne).trans hb
theorem blk_lt {w : World} {b : Nat} {o : Obj} (hb : w.heap[b]? = some o) : b < w.heap.size := (Array.getElem?_eq_some_iff.1 hb).1
theorem blk_set {w : World} {b i : Nat} {cs : Array Value} {t : TypeId} (hb : w.heap[b]? = some (.cells cs t (0, 0))) (u : Value) : (w.setCell ⟨b, i, none⟩ u).heap[b]? = some (.cells (cs.setIfInBounds i u) t (0, 0)) := by
  simp [World.setCell, Array.getElem?_modify, hb]
theorem Cur.farSet {w : World} {g : Nat} {A : Option Addr} {n cap : Nat} {i h : Int} (c : Cur w g A n cap i h) {p : Addr} (hp : g < p.block) (u : Value) : Cur (w.setCell p u) g A n cap i h :=
  c.below ((Below.refl (g + 1) w).setCell (p := p) hp u)
theorem only_setNew {a w : World} {g : Nat} (h : a.grownBy w (some g)) {p : Addr} (hp : a.heap.size ≤ p.block) (u : Value) : a.grownBy (w.setCell p u) (some g) :=
  ⟨h.os, h.tape, h.output, by simpa [World.setCell] using h.size, fun i hi hne => (Below.heap_setCell w p u i (by omega)).trans (h.block i hi hne)⟩
theorem only_set4 {a w : World} {g r : Nat} (h : a.grownBy w (some g)) (hr : a.heap.size ≤ r) (v0 v1 v2 v3 : Value) :
    a.grownBy ((((w.setCell ⟨r, 0, none⟩ v0).setCell ⟨r, 1, none⟩ v1).setCell ⟨r, 2, none⟩ v2).setCell ⟨r, 3, none⟩ v3) (some g) :=
  only_setNew (only_setNew (only_setNew (only_setNew h (p := ⟨r, 0, none⟩) hr v0) (p := ⟨r, 1, none⟩) hr v1) (p := ⟨r, 2, none⟩) hr v2) (p := ⟨r, 3, none⟩) hr v3
theorem Cur.far4 {w : World} {g r : Nat} {A : Option Addr} {n cap : Nat} {i h : Int} (c : Cur w g A n cap i h) (hr : g < r) (v0 v1 v2 v3 : Value) :
    Cur ((((w.setCell ⟨r, 0, none⟩ v0).setCell ⟨r, 1, none⟩ v1).setCell ⟨r, 2, none⟩ v2).setCell ⟨r, 3, none⟩ v3) g A n cap i h :=
  (((c.farSet (p := ⟨r, 0, none⟩) hr v0).farSet (p := ⟨r, 1, none⟩) hr v1).farSet (p := ⟨r, 2, none⟩) hr v2).farSet (p := ⟨r, 3, none⟩) hr v3

/-- A key's result: the block r holds it; the end of a function that returns a key. -/
theorem key_ret {R : Ending → World → Prop} {fn : Func} {a : Act} {w : World} {r : Nat} {x0 x1 x2 x3 : Value} {ku ks kh ka : Int} {p : Tmp} (hres : fn.results = #[.cell p 27]) (hp : a.tmps[p]?.getD undef = .pointer (some ⟨r, 0, none⟩))
    (hblk : w.heap[r]? = some (.cells #[x0, x1, x2, x3] 27 (0, 0))) (hd : a.defers = [])
    (h : R (.returned (KeyV.val ⟨ku, ks, kh, ka⟩)) ((((w.setCell ⟨r, 0, none⟩ (.int .i64 ku)).setCell ⟨r, 1, none⟩ (.int .i64 ks)).setCell ⟨r, 2, none⟩ (.int .i64 kh)).setCell ⟨r, 3, none⟩ (.int .i64 ka))) :
    bodyPost Tryd.prog fn R .ret a ((((w.setCell ⟨r, 0, none⟩ (.int .i64 ku)).setCell ⟨r, 1, none⟩ (.int .i64 ks)).setCell ⟨r, 2, none⟩ (.int .i64 kh)).setCell ⟨r, 3, none⟩ (.int .i64 ka)) := by
  obtain ⟨⟨b0, b1, b2, b3⟩, _⟩ := blk4 hblk
  obtain ⟨s0, s1, s2, s3⟩ := set4_cell (w := w) (g := r) (fun i hi => by match i, hi with | 0, _ => rw [b0]; rfl | 1, _ => rw [b1]; rfl | 2, _ => rw [b2]; rfl | 3, _ => rw [b3]; rfl) (.int .i64 ku) (.int .i64 ks) (.int .i64 kh) (.int .i64 ka)
  refine bodyPost_ret (v := KeyV.val ⟨ku, ks, kh, ka⟩) ?_ hd h
  simp [results, hres, hp, go_sem, s0, s1, s2, s3, KeyV.val]

set_option maxHeartbeats 2000000 in
theorem l3Draw_any (w : World) (g : Nat) (A : Option Addr) (n cap : Nat) (i h : Int) (hn : n ≤ 4096) (c : Cur w g A n cap i h) :
    Calls Tryd.prog 68 #[.pointer (some ⟨g, 0, none⟩)] w (KeyOut w g A n cap) := by
  have C := Lib.hid c
  have hg := c.lt
  clear c
  go_enter Tryd.func68, Tryd.ntmps68
  go_wp2_with fail
  refine (l1Below_any _ g A n cap i h 6 hn (by omega) (by omega) (C.out.alloc _)).mono ?_
  rintro e w1 ⟨x, i1, h1, ⟨hx0, hx1⟩, rfl, c1, b1⟩
  have R1 := Lib.hid (blk_kept b1 (heap1 w _) (by omega))
  have G1 := Lib.hid (only_trans (World.grownBy_alloc w _ (some g)) b1)
  have C1 := Lib.hid c1
  clear c1 b1 C
  go_wp2_with fail
  refine (l1Below_any _ g A n cap i1 h1 4 hn (by omega) (by omega) C1.out).mono ?_
  rintro e w2 ⟨y, i2, h2, ⟨hy0, hy1⟩, rfl, c2, b2⟩
  have R2 := Lib.hid (blk_kept b2 R1.out (by omega))
  have G2 := Lib.hid (only_trans G1.out b2)
  have C2 := Lib.hid c2
  clear c2 b2 C1 R1 G1
  go_wp2_with fail
  refine (l2Draw_any _ g A n cap i2 h2 hn C2.out).mono ?_
  rintro e w3 ⟨z, i3, h3, ⟨hz0, hz1⟩, rfl, c3, b3⟩
  have R3 := Lib.hid (blk_kept b3 R2.out (by omega))
  have G3 := Lib.hid (only_trans G2.out b3)
  have C3 := Lib.hid c3
  have hs3 := G3.out.size
  have hr3 := blk_lt R3.out
  clear c3 b3 C2 R2 G2
  by_cases h6 : x = 5
  · subst h6
    go_wp2_with fail
    refine (l1In_b _ _ _ _).mono ?_
    rintro e w' ⟨rfl, rfl⟩
    have CK := Lib.hid (C3.out.alloc (.cells #[.int .i64 6, .int .i64 y, .int .i64 0, .int .i64 0] 27))
    have GK := Lib.hid (only_alloc G3.out (.cells #[.int .i64 6, .int .i64 y, .int .i64 0, .int .i64 0] 27))
    have RK := Lib.hid (blk_alloc (.cells #[.int .i64 6, .int .i64 y, .int .i64 0, .int .i64 0] 27) R3.out)
    rw [show inB 6 3 5 = false from inB_no (by omega)]
    have KK := Lib.hid (heap1 w3 (.cells #[.int .i64 6, .int .i64 y, .int .i64 0, .int .i64 0] 27))
    generalize w3.alloc (.cells #[.int .i64 6, .int .i64 y, .int .i64 0, .int .i64 0] 27) = wk at CK GK RK KK ⊢
    obtain ⟨⟨r0, r1, r2, r3⟩, t0, t1, t2, t3⟩ := blk4 RK.out
    obtain ⟨⟨k0, k1, k2, k3⟩, _⟩ := blk4 KK.out
    clear C3 G3
    go_wp2
    refine key_ret (x0 := .int .i64 0) (x1 := .int .i64 0) (x2 := .int .i64 0) (x3 := .int .i64 0) (p := 2) ?_ ?_ RK.out ?_ ?_
    · rfl
    · rfl
    · rfl
    · exact ⟨_, i3, h3, rfl, CK.out.far4 (by omega) _ _ _ _, only_set4 GK.out (Nat.le_refl _) _ _ _ _⟩
  · have h6b : (1 + x == 6) = false := bne_int (by omega)
    have CK := Lib.hid (C3.out.alloc (.cells #[.int .i64 (1 + x), .int .i64 y, .int .i64 z, .int .i64 0] 27))
    have GK := Lib.hid (only_alloc G3.out (.cells #[.int .i64 (1 + x), .int .i64 y, .int .i64 z, .int .i64 0] 27))
    have RK := Lib.hid (blk_alloc (.cells #[.int .i64 (1 + x), .int .i64 y, .int .i64 z, .int .i64 0] 27) R3.out)
    clear C3 G3
    go_wp2_with fail
    refine (l1In_b _ _ _ _).mono ?_
    rintro e w' ⟨rfl, rfl⟩
    have KK := Lib.hid (heap1 w3 (.cells #[.int .i64 (1 + x), .int .i64 y, .int .i64 z, .int .i64 0] 27))
    generalize w3.alloc (.cells #[.int .i64 (1 + x), .int .i64 y, .int .i64 z, .int .i64 0] 27) = wk at CK GK RK KK ⊢
    cases hin : inB (1 + x) 3 5 with
    | false =>
      obtain ⟨⟨r0, r1, r2, r3⟩, t0, t1, t2, t3⟩ := blk4 RK.out
      obtain ⟨⟨k0, k1, k2, k3⟩, _⟩ := blk4 KK.out
      go_wp2
      refine key_ret (x0 := .int .i64 0) (x1 := .int .i64 0) (x2 := .int .i64 0) (x3 := .int .i64 0) (p := 2) ?_ ?_ RK.out ?_ ?_
      · rfl
      · rfl
      · rfl
      · exact ⟨_, i3, h3, rfl, CK.out.far4 (by omega) _ _ _ _, only_set4 GK.out (Nat.le_refl _) _ _ _ _⟩
    | true =>
      go_wp2_with fail
      refine (l2Draw_any _ g A n cap i3 h3 hn CK.out).mono ?_
      rintro e w4 ⟨z2, i4, h4, ⟨_, _⟩, rfl, c4, b4⟩
      have R4 := Lib.hid (blk_kept b4 RK.out (by omega))
      have K4 := Lib.hid (blk_kept b4 KK.out (by omega))
      have G4 := Lib.hid (only_trans GK.out b4)
      have C4 := Lib.hid c4
      obtain ⟨⟨q0, q1, q2, q3⟩, u0, u1, u2, u3⟩ := blk4 R4.out
      obtain ⟨⟨k0, k1, k2, k3⟩, f0, f1, f2, f3⟩ := blk4 K4.out
      clear c4 b4 CK GK RK KK
      go_wp2
      refine key_ret (x0 := .int .i64 0) (x1 := .int .i64 0) (x2 := .int .i64 0) (x3 := .int .i64 0) (p := 2) ?_ ?_ (blk_far R4.out (by show w.heap.size ≠ w3.heap.size; omega)) ?_ ?_
      · rfl
      · rfl
      · rfl
      · exact ⟨_, i4, h4, rfl, (C4.out.farSet (p := ⟨w3.heap.size, 3, none⟩) (by show g < w3.heap.size; omega) _).far4 (by omega) _ _ _ _, only_set4 (only_setNew G4.out (p := ⟨w3.heap.size, 3, none⟩) (by show w.heap.size ≤ w3.heap.size; omega) _) (Nat.le_refl _) _ _ _ _⟩

set_option maxHeartbeats 4000000 in
theorem l3DrawAny_any (w : World) (g : Nat) (A : Option Addr) (n cap : Nat) (i h : Int) (hn : n ≤ 4096) (c : Cur w g A n cap i h) :
    Calls Tryd.prog 59 #[.pointer (some ⟨g, 0, none⟩)] w (KeyOut w g A n cap) := by
  have C := Lib.hid c
  have hg := c.lt
  clear c
  go_enter Tryd.func59, Tryd.ntmps59
  go_wp2_with fail
  refine (l3Draw_any _ g A n cap i h hn (C.out.alloc _)).mono ?_
  rintro e w1 ⟨⟨ku, ks, kh, ka⟩, i1, h1, rfl, c1, b1⟩
  have hs1 := b1.size
  simp only [World.size_alloc] at hs1
  have R1 := Lib.hid (blk_alloc (.cells #[.int .i64 ku, .int .i64 ks, .int .i64 kh, .int .i64 ka] 27) (blk_kept b1 (heap1 w _) (by omega)))
  have G1 := Lib.hid (only_alloc (only_trans (World.grownBy_alloc w _ (some g)) b1) (.cells #[.int .i64 ku, .int .i64 ks, .int .i64 kh, .int .i64 ka] 27))
  have C1 := Lib.hid (c1.alloc (.cells #[.int .i64 ku, .int .i64 ks, .int .i64 kh, .int .i64 ka] 27))
  have K1 := Lib.hid (heap1 w1 (.cells #[.int .i64 ku, .int .i64 ks, .int .i64 kh, .int .i64 ka] 27))
  clear c1 b1 C
  unfold KeyV.val
  go_wp2_with fail
  obtain ⟨kb, hkb⟩ : ∃ kb, kb = w1.heap.size := ⟨_, rfl⟩
  have hkw : w.heap.size < kb := by omega
  rw [← hkb] at K1 ⊢
  generalize w1.alloc (.cells #[.int .i64 ku, .int .i64 ks, .int .i64 kh, .int .i64 ka] 27) = wk at R1 G1 C1 K1 ⊢
  clear hkb hs1
  refine (l1Once_any _ g A n cap i1 h1 8 hn (by omega) (by omega) C1.out).mono ?_
  rintro e w2 ⟨b, i2, h2, rfl, c2, b2⟩
  have R2 := Lib.hid (blk_kept b2 R1.out (by omega))
  have K2 := Lib.hid (blk_kept b2 K1.out (by omega))
  have G2 := Lib.hid (only_trans G1.out b2)
  have C2 := Lib.hid c2
  clear c2 b2 R1 K1 G1 C1
  cases b with
  | false =>
    obtain ⟨⟨r0, r1, r2, r3⟩, t0, t1, t2, t3⟩ := blk4 R2.out
    obtain ⟨⟨k0, k1, k2, k3⟩, f0, f1, f2, f3⟩ := blk4 K2.out
    go_wp2
    refine key_ret (x0 := .int .i64 0) (x1 := .int .i64 0) (x2 := .int .i64 0) (x3 := .int .i64 0) (p := 2) ?_ ?_ R2.out ?_ ?_
    · rfl
    · rfl
    · rfl
    · exact ⟨_, i2, h2, rfl, C2.out.far4 (by omega) _ _ _ _, only_set4 G2.out (Nat.le_refl _) _ _ _ _⟩
  | true =>
    go_wp2_with fail
    refine (l1Below_any _ g A n cap i2 h2 4 hn (by omega) (by omega) C2.out).mono ?_
    rintro e w3 ⟨x, i3, h3, ⟨hx0, hx1⟩, rfl, c3, b3⟩
    have R3 := Lib.hid (blk_kept b3 R2.out (by omega))
    have K3 := Lib.hid (blk_kept b3 K2.out (by omega))
    have G3 := Lib.hid (only_trans G2.out b3)
    have C3 := Lib.hid c3
    clear c3 b3 R2 K2 G2 C2
    by_cases h0 : x = 0
    · have hx0 : x = 0 := by omega
      subst hx0
      go_wp2_with fail
      refine (l1From_any _ g A n cap i3 h3 (-1) 7 hn (by omega) (by omega) (by omega) (by omega) C3.out).mono ?_
      rintro e w4 ⟨y, i4, h4, ⟨_, _⟩, rfl, c4, b4⟩
      have R4 := Lib.hid (blk_kept b4 R3.out (by omega))
      have K4 := Lib.hid (blk_kept b4 K3.out (by omega))
      have G4 := Lib.hid (only_trans G3.out b4)
      have C4 := Lib.hid c4
      obtain ⟨⟨r0, r1, r2, r3⟩, t0, t1, t2, t3⟩ := blk4 R4.out
      obtain ⟨⟨k0, k1, k2, k3⟩, f0, f1, f2, f3⟩ := blk4 K4.out
      clear c4 b4 R3 K3 G3 C3
      go_wp2
      refine key_ret (x0 := .int .i64 0) (x1 := .int .i64 0) (x2 := .int .i64 0) (x3 := .int .i64 0) (p := 2) ?_ ?_ (blk_far R4.out (by show w.heap.size ≠ kb; omega)) ?_ ?_
      · rfl
      · rfl
      · rfl
      · exact ⟨_, i4, h4, rfl, (C4.out.farSet (p := ⟨kb, 0, none⟩) (by show g < kb; omega) _).far4 (by omega) _ _ _ _, only_set4 (only_setNew G4.out (p := ⟨kb, 0, none⟩) (by show w.heap.size ≤ kb; omega) _) (Nat.le_refl _) _ _ _ _⟩
    · by_cases h1' : x = 1
      · have hx1 : x = 1 := by omega
        subst hx1
        go_wp2_with fail
        refine (l2DrawAny_any _ g A n cap i3 h3 hn C3.out).mono ?_
        rintro e w4 ⟨y, i4, h4, ⟨_, _⟩, rfl, c4, b4⟩
        have R4 := Lib.hid (blk_kept b4 R3.out (by omega))
        have K4 := Lib.hid (blk_kept b4 K3.out (by omega))
        have G4 := Lib.hid (only_trans G3.out b4)
        have C4 := Lib.hid c4
        obtain ⟨⟨r0, r1, r2, r3⟩, t0, t1, t2, t3⟩ := blk4 R4.out
        obtain ⟨⟨k0, k1, k2, k3⟩, f0, f1, f2, f3⟩ := blk4 K4.out
        clear c4 b4 R3 K3 G3 C3
        go_wp2
        refine key_ret (x0 := .int .i64 0) (x1 := .int .i64 0) (x2 := .int .i64 0) (x3 := .int .i64 0) (p := 2) ?_ ?_ (blk_far R4.out (by show w.heap.size ≠ kb; omega)) ?_ ?_
        · rfl
        · rfl
        · rfl
        · exact ⟨_, i4, h4, rfl, (C4.out.farSet (p := ⟨kb, 1, none⟩) (by show g < kb; omega) _).far4 (by omega) _ _ _ _, only_set4 (only_setNew G4.out (p := ⟨kb, 1, none⟩) (by show w.heap.size ≤ kb; omega) _) (Nat.le_refl _) _ _ _ _⟩
      · by_cases h2' : x = 2
        · have hx2 : x = 2 := by omega
          subst hx2
          go_wp2_with fail
          refine (l2DrawAny_any _ g A n cap i3 h3 hn C3.out).mono ?_
          rintro e w4 ⟨y, i4, h4, ⟨_, _⟩, rfl, c4, b4⟩
          have R4 := Lib.hid (blk_kept b4 R3.out (by omega))
          have K4 := Lib.hid (blk_kept b4 K3.out (by omega))
          have G4 := Lib.hid (only_trans G3.out b4)
          have C4 := Lib.hid c4
          obtain ⟨⟨r0, r1, r2, r3⟩, t0, t1, t2, t3⟩ := blk4 R4.out
          obtain ⟨⟨k0, k1, k2, k3⟩, f0, f1, f2, f3⟩ := blk4 K4.out
          clear c4 b4 R3 K3 G3 C3
          go_wp2
          refine key_ret (x0 := .int .i64 0) (x1 := .int .i64 0) (x2 := .int .i64 0) (x3 := .int .i64 0) (p := 2) ?_ ?_ (blk_far R4.out (by show w.heap.size ≠ kb; omega)) ?_ ?_
          · rfl
          · rfl
          · rfl
          · exact ⟨_, i4, h4, rfl, (C4.out.farSet (p := ⟨kb, 2, none⟩) (by show g < kb; omega) _).far4 (by omega) _ _ _ _, only_set4 (only_setNew G4.out (p := ⟨kb, 2, none⟩) (by show w.heap.size ≤ kb; omega) _) (Nat.le_refl _) _ _ _ _⟩
        · have hx3 : x = 3 := by omega
          subst hx3
          go_wp2_with fail
          refine (l2DrawAny_any _ g A n cap i3 h3 hn C3.out).mono ?_
          rintro e w4 ⟨y, i4, h4, ⟨_, _⟩, rfl, c4, b4⟩
          have R4 := Lib.hid (blk_kept b4 R3.out (by omega))
          have K4 := Lib.hid (blk_kept b4 K3.out (by omega))
          have G4 := Lib.hid (only_trans G3.out b4)
          have C4 := Lib.hid c4
          obtain ⟨⟨r0, r1, r2, r3⟩, t0, t1, t2, t3⟩ := blk4 R4.out
          obtain ⟨⟨k0, k1, k2, k3⟩, f0, f1, f2, f3⟩ := blk4 K4.out
          clear c4 b4 R3 K3 G3 C3
          go_wp2
          refine key_ret (x0 := .int .i64 0) (x1 := .int .i64 0) (x2 := .int .i64 0) (x3 := .int .i64 0) (p := 2) ?_ ?_ (blk_far R4.out (by show w.heap.size ≠ kb; omega)) ?_ ?_
          · rfl
          · rfl
          · rfl
          · exact ⟨_, i4, h4, rfl, (C4.out.farSet (p := ⟨kb, 3, none⟩) (by show g < kb; omega) _).far4 (by omega) _ _ _ _, only_set4 (only_setNew G4.out (p := ⟨kb, 3, none⟩) (by show w.heap.size ≤ kb; omega) _) (Nat.le_refl _) _ _ _ _⟩




end Go.Proofs.YtdnkpdfhnpmhbaaDoor.Tx

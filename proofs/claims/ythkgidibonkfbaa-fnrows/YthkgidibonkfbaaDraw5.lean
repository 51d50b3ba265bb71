/-
  What the model draws for chapter 5: a row, a text, a box, lists of these. Condition: the draw's code has at most 4096 bytes.
-/
import Derived.Test.YthkgidibonkfbaaDraw1
import Derived.Test.YthkgidibonkfbaaDraw4
import Derived.Test.YthkgidibonkfbaaRowAll
import Derived.Test.YthkgidibonkfbaaCurEnv
namespace Go.Proofs.Ythkgidibonkfbaa.Tx
open Go.RowKit

/-- What a draw of a row leaves. -/
def RowOut (w : World) (g : Nat) (A : Option Addr) (n cap : Nat) (e : Ending) (w' : World) : Prop :=
  ∃ (r : RowV) (i h : Int), e = .returned r.val ∧ Cur w' g A n cap i h ∧ w.grownBy w' (some g)

set_option maxHeartbeats 4000000 in
theorem l5Draw_any (w : World) (g : Nat) (A : Option Addr) (n cap : Nat) (i h : Int) (hn : n ≤ 4096) (c : Cur w g A n cap i h) :
    Calls Try.prog 43 #[.pointer (some ⟨g, 0, none⟩)] w (RowOut w g A n cap) := by
  have hg := c.lt
  have C := Lib.hid c
  clear c
  have G := Lib.hid (only_refl w g)
  obtain ⟨W0, hW0⟩ : ∃ W, w.alloc (.cells #[.int .i64 0, .int .i64 0, .int .i64 0, .int .i64 0, .int .i64 0] 27) = W := ⟨_, rfl⟩
  replace G := Lib.hid (only_alloc G.out (.cells #[.int .i64 0, .int .i64 0, .int .i64 0, .int .i64 0, .int .i64 0] 27))
  replace C := Lib.hid (C.out.alloc (.cells #[.int .i64 0, .int .i64 0, .int .i64 0, .int .i64 0, .int .i64 0] 27))
  have R := Lib.hid (heap1 w (.cells #[.int .i64 0, .int .i64 0, .int .i64 0, .int .i64 0, .int .i64 0] 27))
  rw [hW0] at G C R
  have sW0 : w.heap.size < W0.heap.size := by rw [← hW0]; simp
  go_enter Try.func43, Try.ntmps43
  go_wp2_with fail
  clear hW0
  refine (l3Draw_any _ g A n cap i h hn C.out).mono ?_
  rintro e w1 ⟨⟨ku, ks, kh, ka⟩, i1, h1, rfl, c, b⟩
  replace G := Lib.hid (only_trans G.out b)
  replace C := Lib.hid c
  replace R := Lib.hid (blk_kept b R.out (by omega))
  have sw1 := b.size
  clear b c
  unfold KeyV.val
  go_wp2_with fail
  refine (l1Below_any _ g A n cap i1 h1 3 hn (by omega) (by omega) C.out).mono ?_
  rintro e w2 ⟨y, i2, h2, ⟨_, _⟩, rfl, c, b⟩
  replace G := Lib.hid (only_trans G.out b)
  replace C := Lib.hid c
  replace R := Lib.hid (blk_kept b R.out (by omega))
  have sw2 := b.size
  clear b c
  obtain ⟨W3, hW3⟩ : ∃ W, w2.alloc (.cells #[.int .i64 ku, .int .i64 ks, .int .i64 kh, .int .i64 ka, .int .i64 y] 27) = W := ⟨_, rfl⟩
  replace G := Lib.hid (only_alloc G.out (.cells #[.int .i64 ku, .int .i64 ks, .int .i64 kh, .int .i64 ka, .int .i64 y] 27))
  replace C := Lib.hid (C.out.alloc (.cells #[.int .i64 ku, .int .i64 ks, .int .i64 kh, .int .i64 ka, .int .i64 y] 27))
  replace R := Lib.hid (alloc_blk (o := .cells #[.int .i64 ku, .int .i64 ks, .int .i64 kh, .int .i64 ka, .int .i64 y] 27) R.out)
  have K := Lib.hid (heap1 w2 (.cells #[.int .i64 ku, .int .i64 ks, .int .i64 kh, .int .i64 ka, .int .i64 y] 27))
  rw [hW3] at G C R K
  have sW3 : w2.heap.size < W3.heap.size := by rw [← hW3]; simp
  go_wp2_with fail
  clear hW3
  refine (l1Once_any _ g A n cap i2 h2 8 hn (by omega) (by omega) C.out).mono ?_
  rintro e w4 ⟨o, i4, h4, rfl, c, b⟩
  replace G := Lib.hid (only_trans G.out b)
  replace C := Lib.hid c
  replace R := Lib.hid (blk_kept b R.out (by omega))
  replace K := Lib.hid (blk_kept b K.out (by omega))
  have sw4 := b.size
  clear b c
  cases o with
  | false =>
    obtain ⟨⟨a0, a1, a2, a3, a4⟩, q0, q1, q2, q3, q4⟩ := blk5 R.out
    obtain ⟨⟨d0, d1, d2, d3, d4⟩, f0, f1, f2, f3, f4⟩ := blk5 K.out
    go_wp2
    exact row_ret (cs := List.toArray (RowV.cells ⟨⟨ku, ks, kh, ka⟩, y⟩)) rfl rfl (setAll_whole (vs := (RowV.cells ⟨⟨ku, ks, kh, ka⟩, y⟩)) R.out rfl) Try.underlying27 rfl (by kernel_rfl) rfl ⟨⟨⟨ku, ks, kh, ka⟩, y⟩, i4, h4, rfl, Cur.farAll hg (RowV.cells ⟨⟨ku, ks, kh, ka⟩, y⟩) 0 C.out, only_setAll (Nat.le_refl _) (RowV.cells ⟨⟨ku, ks, kh, ka⟩, y⟩) 0 G.out⟩
  | true =>
    go_wp2_with fail
    refine (l1Below_any _ g A n cap i4 h4 3 hn (by omega) (by omega) C.out).mono ?_
    rintro e w5 ⟨v, i5, h5, ⟨hv0, hv1⟩, rfl, c, b⟩
    replace G := Lib.hid (only_trans G.out b)
    replace C := Lib.hid c
    replace R := Lib.hid (blk_kept b R.out (by omega))
    replace K := Lib.hid (blk_kept b K.out (by omega))
    have sw5 := b.size
    clear b c
    have hv : v = 0 ∨ v = 1 ∨ v = 2 := by omega
    rcases hv with rfl | rfl | rfl
    · go_wp2_with fail
      refine (l3DrawAny_any _ g A n cap i5 h5 hn C.out).mono ?_
      rintro e w6 ⟨⟨ju, js, jh, ja⟩, i6, h6, rfl, c, b⟩
      replace G := Lib.hid (only_trans G.out b)
      replace C := Lib.hid c
      replace R := Lib.hid (blk_kept b R.out (by omega))
      replace K := Lib.hid (blk_kept b K.out (by omega))
      have sw6 := b.size
      clear b c
      unfold KeyV.val
      obtain ⟨⟨a0, a1, a2, a3, a4⟩, q0, q1, q2, q3, q4⟩ := blk5 R.out
      obtain ⟨⟨d0, d1, d2, d3, d4⟩, f0, f1, f2, f3, f4⟩ := blk5 K.out
      go_wp2
      exact row_ret (cs := List.toArray (RowV.cells ⟨⟨ju, js, jh, ja⟩, y⟩)) rfl rfl (setAll_whole (vs := (RowV.cells ⟨⟨ju, js, jh, ja⟩, y⟩)) (setAll_away (g := w2.heap.size) (by omega) [.int .i64 ju, .int .i64 js, .int .i64 jh, .int .i64 ja] 0 R.out) rfl) Try.underlying27 rfl (by kernel_rfl) rfl ⟨⟨⟨ju, js, jh, ja⟩, y⟩, i6, h6, rfl, Cur.farAll hg (RowV.cells ⟨⟨ju, js, jh, ja⟩, y⟩) 0 (Cur.farAll (r := w2.heap.size) (by omega) [.int .i64 ju, .int .i64 js, .int .i64 jh, .int .i64 ja] 0 C.out), only_setAll (Nat.le_refl _) (RowV.cells ⟨⟨ju, js, jh, ja⟩, y⟩) 0 (only_setAll (r := w2.heap.size) (by omega) [.int .i64 ju, .int .i64 js, .int .i64 jh, .int .i64 ja] 0 G.out)⟩
    · obtain ⟨⟨a0, a1, a2, a3, a4⟩, q0, q1, q2, q3, q4⟩ := blk5 R.out
      obtain ⟨⟨d0, d1, d2, d3, d4⟩, f0, f1, f2, f3, f4⟩ := blk5 K.out
      go_wp2
      exact row_ret (cs := List.toArray (RowV.cells ⟨⟨0, 0, 0, 0⟩, y⟩)) rfl rfl (setAll_whole (vs := (RowV.cells ⟨⟨0, 0, 0, 0⟩, y⟩)) (setAll_away (g := w2.heap.size) (by omega) [.int .i64 0, .int .i64 0, .int .i64 0, .int .i64 0] 0 R.out) rfl) Try.underlying27 rfl (by kernel_rfl) rfl ⟨⟨⟨0, 0, 0, 0⟩, y⟩, i5, h5, rfl, Cur.farAll hg (RowV.cells ⟨⟨0, 0, 0, 0⟩, y⟩) 0 (Cur.farAll (r := w2.heap.size) (by omega) [.int .i64 0, .int .i64 0, .int .i64 0, .int .i64 0] 0 C.out), only_setAll (Nat.le_refl _) (RowV.cells ⟨⟨0, 0, 0, 0⟩, y⟩) 0 (only_setAll (r := w2.heap.size) (by omega) [.int .i64 0, .int .i64 0, .int .i64 0, .int .i64 0] 0 G.out)⟩
    · obtain ⟨W6, hW6⟩ : ∃ W, w5.alloc (.cells #[.int .i64 (-1), .int .i64 999, .int .i64 1000, .int .i64 1001] 2) = W := ⟨_, rfl⟩
      replace G := Lib.hid (only_alloc G.out (.cells #[.int .i64 (-1), .int .i64 999, .int .i64 1000, .int .i64 1001] 2))
      replace C := Lib.hid (C.out.alloc (.cells #[.int .i64 (-1), .int .i64 999, .int .i64 1000, .int .i64 1001] 2))
      replace R := Lib.hid (alloc_blk (o := .cells #[.int .i64 (-1), .int .i64 999, .int .i64 1000, .int .i64 1001] 2) R.out)
      replace K := Lib.hid (alloc_blk (o := .cells #[.int .i64 (-1), .int .i64 999, .int .i64 1000, .int .i64 1001] 2) K.out)
      have L := Lib.hid (heap1 w5 (.cells #[.int .i64 (-1), .int .i64 999, .int .i64 1000, .int .i64 1001] 2))
      rw [hW6] at G C R K L
      have sW6 : w5.heap.size < W6.heap.size := by rw [← hW6]; simp
      go_wp2_with fail
      clear hW6
      refine (l1Below_any _ g A n cap i5 h5 4 hn (by omega) (by omega) C.out).mono ?_
      rintro e w7 ⟨v, i7, h7, ⟨hv0, hv1⟩, rfl, c, b⟩
      replace G := Lib.hid (only_trans G.out b)
      replace C := Lib.hid c
      replace R := Lib.hid (blk_kept b R.out (by omega))
      replace K := Lib.hid (blk_kept b K.out (by omega))
      replace L := Lib.hid (blk_kept b L.out (by omega))
      have sw7 := b.size
      clear b c
      obtain ⟨m, rfl⟩ := Int.eq_ofNat_of_zero_le hv0
      obtain ⟨zz, hz⟩ : ∃ z : Int, w7.cell? ⟨w5.heap.size, m, none⟩ = some (.int .i64 z) := by
        rw [blk_cell L.out]
        have hm : m = 0 ∨ m = 1 ∨ m = 2 ∨ m = 3 := by omega
        rcases hm with rfl | rfl | rfl | rfl <;> exact ⟨_, rfl⟩
      obtain ⟨⟨a0, a1, a2, a3, a4⟩, q0, q1, q2, q3, q4⟩ := blk5 R.out
      obtain ⟨⟨d0, d1, d2, d3, d4⟩, f0, f1, f2, f3, f4⟩ := blk5 K.out
      go_wp2
      exact row_ret (cs := List.toArray (RowV.cells ⟨⟨ku, ks, kh, ka⟩, zz⟩)) rfl rfl (setAll_whole (vs := (RowV.cells ⟨⟨ku, ks, kh, ka⟩, zz⟩)) (setAll_away (g := w2.heap.size) (by omega) [.int .i64 zz] 4 R.out) rfl) Try.underlying27 rfl (by kernel_rfl) rfl ⟨⟨⟨ku, ks, kh, ka⟩, zz⟩, i7, h7, rfl, Cur.farAll hg (RowV.cells ⟨⟨ku, ks, kh, ka⟩, zz⟩) 0 (Cur.farAll (r := w2.heap.size) (by omega) [.int .i64 zz] 4 C.out), only_setAll (Nat.le_refl _) (RowV.cells ⟨⟨ku, ks, kh, ka⟩, zz⟩) 0 (only_setAll (r := w2.heap.size) (by omega) [.int .i64 zz] 4 G.out)⟩

/-- What DrawPut leaves. -/
def PutIn (w : World) (e : Ending) (w' : World) : Prop := ∃ (r : RowV) (t : ByteArray), e = .returned (.tuple #[r.val, .string t]) ∧ Below w.heap.size w w'
/-- What DrawTake leaves. -/
def TakeIn (w : World) (e : Ending) (w' : World) : Prop := ∃ (r : RowV) (b : BoxV), e = .returned (.tuple #[r.val, b.val]) ∧ Below w.heap.size w w'
/-- What DrawTakeAll leaves. -/
def TakeAllIn (w : World) (e : Ending) (w' : World) : Prop := ∃ (r : RowV) (bs : List BoxV) (gb cb : Nat), bs.length ≤ 7 ∧ e = .returned (.tuple #[r.val, .slice (some ⟨gb, 0, none⟩) bs.length cb]) ∧ MadeB w' w.heap.size bs gb cb ∧ Below w.heap.size w w'
/-- What holds at the head of DrawTakeAll's loop. -/
def TakeDraw (w : World) (g base kb : Nat) (r : RowV) (A : Option Addr) (n cap : Nat) (m : Nat) (v : Value) (wr : World) : Prop :=
  ∃ (bs : List BoxV) (gb cb : Nat) (i h : Int), v = .slice (some ⟨gb, 0, none⟩) bs.length cb ∧ bs.length + m ≤ 7 ∧ MadeB wr base bs gb cb ∧ Cur wr g A n cap i h ∧
    wr.heap[w.heap.size]? = some (.cells RowV.zero.cells.toArray 27) ∧ wr.heap[kb]? = some (.cells r.cells.toArray 27) ∧ Below w.heap.size w wr
theorem cells_one (b : BoxV) (u : Value) (h : u ∈ b.cells) : u.oneCell' = true := by
  simp only [BoxV.cells, List.mem_cons, List.not_mem_nil, or_false] at h
  rcases h with rfl | rfl | rfl | rfl | rfl | rfl | rfl <;> rfl
/-- What DrawPutAll leaves. -/
def PutAllIn (w : World) (e : Ending) (w' : World) : Prop := ∃ (r : RowV) (ss : List ByteArray) (gb cb : Nat), ss.length ≤ 5 ∧ e = .returned (.tuple #[r.val, .slice (some ⟨gb, 0, none⟩) ss.length cb]) ∧ MadeS w' w.heap.size ss gb cb ∧ Below w.heap.size w w'

set_option maxHeartbeats 4000000 in
theorem DrawPut_any (w : World) (A : Option Addr) (n cap : Nat) (hn : n ≤ 4096) (hb : BytesAt w w.heap.size A n) :
    Calls Try.prog 14 #[.slice A n cap] w (PutIn w) := by
  have K := Lib.hid (Below.refl w.heap.size w)
  have BT := Lib.hid hb
  clear hb
  go_enter Try.func14, Try.ntmps14
  obtain ⟨V0, hV0⟩ : ∃ W, w.alloc (.cells #[.int .i64 0, .int .i64 0, .int .i64 0, .int .i64 0, .int .i64 0] 27) = W := ⟨_, rfl⟩
  replace BT := Lib.hid (BT.out.below ((Below.refl _ _).alloc K.out.size (.cells #[.int .i64 0, .int .i64 0, .int .i64 0, .int .i64 0, .int .i64 0] 27)))
  replace K := Lib.hid (K.out.alloc K.out.size (.cells #[.int .i64 0, .int .i64 0, .int .i64 0, .int .i64 0, .int .i64 0] 27))
  have R0 := Lib.hid (heap1 w (.cells #[.int .i64 0, .int .i64 0, .int .i64 0, .int .i64 0, .int .i64 0] 27))
  rw [hV0] at BT K R0
  have sV0 : w.heap.size < V0.heap.size := by rw [← hV0]; simp
  go_wp2_with fail
  refine (l1New_any _ A n cap hn (BT.out.up K.out.size)).mono ?_
  rintro e w1 ⟨rfl, h0, c, b⟩
  replace BT := Lib.hid (BT.out.below (b.mono K.out.size))
  replace K := Lib.hid (K.out.trans (b.mono K.out.size))
  replace R0 := Lib.hid (blk_on b R0.out)
  have C := Lib.hid c
  have hcl := c.lt
  have sw1 := b.size
  have sK := K.out.size
  clear b c
  clear hV0
  go_wp2_with fail
  refine (l5Draw_any _ _ A n cap 0 h0 hn C.out).mono ?_
  rintro e w2 ⟨⟨⟨ku, ks, kh, ka⟩, y⟩, i2, h2, rfl, c, b⟩
  replace BT := Lib.hid (BT.out.below ((Below.refl _ _).grown b K.out.size (fun k e => by have e1 := Option.some.inj e; omega)))
  replace K := Lib.hid (below_off K.out b ⟨by omega, K.out.size⟩)
  replace R0 := Lib.hid (blk_kept b R0.out (by omega))
  replace C := Lib.hid c
  have sw2 := b.size
  clear b c
  have HV : Hid (RowV.val ⟨⟨ku, ks, kh, ka⟩, y⟩ = .agg #[.int .i64 ku, .int .i64 ks, .int .i64 kh, .int .i64 ka, .int .i64 y]) := rfl
  rw [HV.out]
  obtain ⟨W3, hW3⟩ : ∃ W, w2.alloc (.cells #[.int .i64 ku, .int .i64 ks, .int .i64 kh, .int .i64 ka, .int .i64 y] 27) = W := ⟨_, rfl⟩
  replace BT := Lib.hid (BT.out.below ((Below.refl _ _).alloc K.out.size (.cells #[.int .i64 ku, .int .i64 ks, .int .i64 kh, .int .i64 ka, .int .i64 y] 27)))
  replace K := Lib.hid (K.out.alloc K.out.size (.cells #[.int .i64 ku, .int .i64 ks, .int .i64 kh, .int .i64 ka, .int .i64 y] 27))
  replace R0 := Lib.hid (alloc_blk (o := .cells #[.int .i64 ku, .int .i64 ks, .int .i64 kh, .int .i64 ka, .int .i64 y] 27) R0.out)
  replace C := Lib.hid (C.out.alloc (.cells #[.int .i64 ku, .int .i64 ks, .int .i64 kh, .int .i64 ka, .int .i64 y] 27))
  have KR := Lib.hid (heap1 w2 (.cells #[.int .i64 ku, .int .i64 ks, .int .i64 kh, .int .i64 ka, .int .i64 y] 27))
  rw [hW3] at BT K R0 C KR
  have sW3 : w2.heap.size < W3.heap.size := by rw [← hW3]; simp
  go_wp2
  clear hW3
  have pL : V0.heap.size ∉ ([w.heap.size] : List Nat) := by simp <;> omega
  have pB : w.heap.size ≤ V0.heap.size := by omega
  have pLB : ∀ k ∈ ([w.heap.size] : List Nat), w.heap.size ≤ k := by simp
  refine wp_region_cur (W := W3) [w.heap.size] pL C.out BT.out pB pLB (fun w' => w'.heap[w.heap.size]? = some (.cells #[.int .i64 0, .int .i64 0, .int .i64 0, .int .i64 0, .int .i64 0] 27)) (stays_blk (E := curEnv W3 [w.heap.size] V0.heap.size A n cap pL ⟨_, _, C.out⟩ BT.out pB pLB) (Or.inr (by simp)) _) (R0.out) [0, 0, 1, 3, 0] (by kernel_rfl) (by kernel_rfl) (by kernel_rfl) ?_
  have fk : ∀ q : In (curEnv W3 [w.heap.size] V0.heap.size A n cap pL ⟨_, _, C.out⟩ BT.out pB pLB), _ := fun q => (blk5 (q.blkc KR.out (by simp; omega))).1
  refine wpO_quiet 2 rfl (by kernel_rfl) ?_
  simp only [List.take, List.drop]
  repeat (go_big_quiet_step (fail))
  refine wpQuiet_nil ?_
  refine wpO_callx (f := 47) (args := #[.pointer (some ⟨V0.heap.size, 0, none⟩)]) (α := ByteArray) (fun s => .string s) (fun _ => []) (fun _ _ => True) rfl (fun w' => by simp [go_sem]) (fun _ => stays_true) (fun _ => ⟨ByteArray.empty, fun g hg => by cases hg⟩) (fun w' hw _ => ?_) (fun s _ => ?_)
  · obtain ⟨_, i', h', c'⟩ := hw
    exact (l1DrawAny_any _ _ A n cap i' h' hn c').mono fun e w'' ⟨s, i1, h1, hs, he, c1, b1⟩ => ⟨s, he, trivial, ⟨b1, i1, h1, c1⟩, fun k hk => by cases hk⟩
  simp only [Act.put, List.setIfInBounds_toArray, List.set_cons_succ, List.set_cons_zero]
  refine wpO_store (g := w.heap.size) (t := 27) (old := #[.int .i64 0, .int .i64 0, .int .i64 0, .int .i64 0, .int .i64 0]) (fun _ => True) #[.int .i64 ku, .int .i64 ks, .int .i64 kh, .int .i64 ka, .int .i64 y] rfl rfl rfl rfl (Or.inr (by simp)) (by kernel_rfl) rfl rfl (fun w' h => ⟨trivial, h.1⟩) (stays_true) (away_true _) ?_
  simp only [Act.put]
  refine wpO_quiet 1 rfl (by kernel_rfl) ?_
  simp only [List.take, List.drop]
  repeat (go_big_quiet_step (fail))
  refine wpQuiet_nil ?_
  refine wpO_nil ?_
  rintro w5 ⟨b5, i5, h5, c5⟩ ⟨M5, H5⟩
  have B5 : Hid (Below w.heap.size w w5) := K.out.trans (b5.below K.out.size (by simp; omega))
  have H5' := Lib.hid H5
  have M5' := Lib.hid M5
  clear H5 M5 fk
  go_wp2
  exact row_ret2 (r := w.heap.size) (cs := #[.int .i64 ku, .int .i64 ks, .int .i64 kh, .int .i64 ka, .int .i64 y]) rfl rfl rfl H5'.out Try.underlying27 rfl (by kernel_rfl) rfl ⟨⟨⟨ku, ks, kh, ka⟩, y⟩, s, rfl, B5.out⟩

set_option maxHeartbeats 4000000 in
theorem DrawPutAll_any (w : World) (A : Option Addr) (n cap : Nat) (hn : n ≤ 4096) (hb : BytesAt w w.heap.size A n) :
    Calls Try.prog 10 #[.slice A n cap] w (PutAllIn w) := by
  have K := Lib.hid (Below.refl w.heap.size w)
  have BT := Lib.hid hb
  clear hb
  go_enter Try.func10, Try.ntmps10
  obtain ⟨V0, hV0⟩ : ∃ W, w.alloc (.cells #[.int .i64 0, .int .i64 0, .int .i64 0, .int .i64 0, .int .i64 0] 27) = W := ⟨_, rfl⟩
  replace BT := Lib.hid (BT.out.below ((Below.refl _ _).alloc K.out.size (.cells #[.int .i64 0, .int .i64 0, .int .i64 0, .int .i64 0, .int .i64 0] 27)))
  replace K := Lib.hid (K.out.alloc K.out.size (.cells #[.int .i64 0, .int .i64 0, .int .i64 0, .int .i64 0, .int .i64 0] 27))
  have R0 := Lib.hid (heap1 w (.cells #[.int .i64 0, .int .i64 0, .int .i64 0, .int .i64 0, .int .i64 0] 27))
  rw [hV0] at BT K R0
  have sV0 : w.heap.size < V0.heap.size := by rw [← hV0]; simp
  go_wp2_with fail
  refine (l1New_any _ A n cap hn (BT.out.up K.out.size)).mono ?_
  rintro e w1 ⟨rfl, h0, c, b⟩
  replace BT := Lib.hid (BT.out.below (b.mono K.out.size))
  replace K := Lib.hid (K.out.trans (b.mono K.out.size))
  replace R0 := Lib.hid (blk_on b R0.out)
  have C := Lib.hid c
  have hcl := c.lt
  have sw1 := b.size
  have sK := K.out.size
  clear b c
  clear hV0
  go_wp2_with fail
  refine (l5Draw_any _ _ A n cap 0 h0 hn C.out).mono ?_
  rintro e w2 ⟨⟨⟨ku, ks, kh, ka⟩, y⟩, i2, h2, rfl, c, b⟩
  replace BT := Lib.hid (BT.out.below ((Below.refl _ _).grown b K.out.size (fun k e => by have e1 := Option.some.inj e; omega)))
  replace K := Lib.hid (below_off K.out b ⟨by omega, K.out.size⟩)
  replace R0 := Lib.hid (blk_kept b R0.out (by omega))
  replace C := Lib.hid c
  have sw2 := b.size
  clear b c
  have HV : Hid (RowV.val ⟨⟨ku, ks, kh, ka⟩, y⟩ = .agg #[.int .i64 ku, .int .i64 ks, .int .i64 kh, .int .i64 ka, .int .i64 y]) := rfl
  rw [HV.out]
  obtain ⟨W3, hW3⟩ : ∃ W, w2.alloc (.cells #[.int .i64 ku, .int .i64 ks, .int .i64 kh, .int .i64 ka, .int .i64 y] 27) = W := ⟨_, rfl⟩
  replace BT := Lib.hid (BT.out.below ((Below.refl _ _).alloc K.out.size (.cells #[.int .i64 ku, .int .i64 ks, .int .i64 kh, .int .i64 ka, .int .i64 y] 27)))
  replace K := Lib.hid (K.out.alloc K.out.size (.cells #[.int .i64 ku, .int .i64 ks, .int .i64 kh, .int .i64 ka, .int .i64 y] 27))
  replace R0 := Lib.hid (alloc_blk (o := .cells #[.int .i64 ku, .int .i64 ks, .int .i64 kh, .int .i64 ka, .int .i64 y] 27) R0.out)
  replace C := Lib.hid (C.out.alloc (.cells #[.int .i64 ku, .int .i64 ks, .int .i64 kh, .int .i64 ka, .int .i64 y] 27))
  have KR := Lib.hid (heap1 w2 (.cells #[.int .i64 ku, .int .i64 ks, .int .i64 kh, .int .i64 ka, .int .i64 y] 27))
  rw [hW3] at BT K R0 C KR
  have sW3 : w2.heap.size < W3.heap.size := by rw [← hW3]; simp
  go_wp2
  clear hW3
  have pL : V0.heap.size ∉ ([w.heap.size] : List Nat) := by simp <;> omega
  have pB : w.heap.size ≤ V0.heap.size := by omega
  have pLB : ∀ k ∈ ([w.heap.size] : List Nat), w.heap.size ≤ k := by simp
  refine wp_region_cur (W := W3) [w.heap.size] pL C.out BT.out pB pLB (fun w' => w'.heap[w.heap.size]? = some (.cells #[.int .i64 0, .int .i64 0, .int .i64 0, .int .i64 0, .int .i64 0] 27)) (stays_blk (E := curEnv W3 [w.heap.size] V0.heap.size A n cap pL ⟨_, _, C.out⟩ BT.out pB pLB) (Or.inr (by simp)) _) (R0.out) [0, 0, 1, 3, 0] (by kernel_rfl) (by kernel_rfl) (by kernel_rfl) ?_
  have fk : ∀ q : In (curEnv W3 [w.heap.size] V0.heap.size A n cap pL ⟨_, _, C.out⟩ BT.out pB pLB), _ := fun q => (blk5 (q.blkc KR.out (by simp; omega))).1
  refine wpO_quiet 2 rfl (by kernel_rfl) ?_
  simp only [List.take, List.drop]
  repeat (go_big_quiet_step (fail))
  refine wpQuiet_nil ?_
  refine wpO_callx (f := 44) (args := #[.pointer (some ⟨V0.heap.size, 0, none⟩)]) (α := { x : List ByteArray × Nat × Nat // x.1.length ≤ 5 }) (fun x => .slice (some ⟨x.1.2.1, 0, none⟩) x.1.1.length x.1.2.2) (fun x => [x.1.2.1]) (fun x w' => MadeS w' W3.heap.size x.1.1 x.1.2.1 x.1.2.2) rfl (fun w' => by simp [go_sem]) (fun x w1 w2 hw h b => ?_) (fun G => ?_) (fun w' hw _ => ?_) (fun x hx => ?_)
  · exact h.kept b.1 (by intro e; have e1 := Option.some.inj e; have := h.base; omega)
  · obtain ⟨g, hg, hn⟩ := fresh_above W3.heap.size G
    exact ⟨⟨([], g, 0), by simp⟩, fun k hk => by simp at hk; subst hk; exact ⟨hg, hn⟩⟩
  · obtain ⟨hkb, i', h', c'⟩ := hw
    exact (l1DrawList_any _ _ A n cap i' h' hn c').mono fun e w'' ⟨ss, gb, cb, i1, h1, hs, he, m1, c1, b1⟩ => ⟨⟨(ss, gb, cb), hs⟩, he, MadeG.mono ⟨m1.own⟩ hkb.size, ⟨b1, i1, h1, c1⟩, fun k hk => by simp at hk; subst hk; exact m1.base⟩
  obtain ⟨⟨ss, gb, cb⟩, hss⟩ := x
  have hgb0 : W3.heap.size ≤ gb := (hx gb (by simp)).1
  have hgb : gb ≠ w.heap.size := by omega
  dsimp only
  simp only [Act.put, List.setIfInBounds_toArray, List.set_cons_succ, List.set_cons_zero]
  refine wpO_store (g := w.heap.size) (t := 27) (old := #[.int .i64 0, .int .i64 0, .int .i64 0, .int .i64 0, .int .i64 0]) (fun w' => MadeS w' W3.heap.size ss gb cb) #[.int .i64 ku, .int .i64 ks, .int .i64 kh, .int .i64 ka, .int .i64 y] rfl rfl rfl rfl (Or.inr (by simp)) (by kernel_rfl) rfl rfl (fun w' h => ⟨h.2, h.1⟩) (fun w1 w2 hw h b => h.kept b.1 (by intro e; have e1 := Option.some.inj e; have := h.base; omega)) (fun w1 w2 hw h => h.heap (hw gb h.base.2 hgb)) ?_
  simp only [Act.put]
  refine wpO_quiet 1 rfl (by kernel_rfl) ?_
  simp only [List.take, List.drop]
  repeat (go_big_quiet_step (fail))
  refine wpQuiet_nil ?_
  refine wpO_nil ?_
  rintro w5 ⟨b5, i5, h5, c5⟩ ⟨M5, H5⟩
  have B5 : Hid (Below w.heap.size w w5) := K.out.trans (b5.below K.out.size (by simp; omega))
  have H5' := Lib.hid H5
  have M5' := Lib.hid M5
  clear H5 M5 fk
  go_wp2
  exact row_ret2 (r := w.heap.size) (cs := #[.int .i64 ku, .int .i64 ks, .int .i64 kh, .int .i64 ka, .int .i64 y]) rfl rfl rfl H5'.out Try.underlying27 rfl (by kernel_rfl) rfl ⟨⟨⟨ku, ks, kh, ka⟩, y⟩, ss, gb, cb, hss, rfl, M5'.out.mono (by omega), B5.out⟩

set_option maxHeartbeats 4000000 in
theorem DrawTake_any (w : World) (A : Option Addr) (n cap : Nat) (hn : n ≤ 4096) (hb : BytesAt w w.heap.size A n) :
    Calls Try.prog 16 #[.slice A n cap] w (TakeIn w) := by
  have K := Lib.hid (Below.refl w.heap.size w)
  have BT := Lib.hid hb
  clear hb
  go_enter Try.func16, Try.ntmps16
  obtain ⟨V0, hV0⟩ : ∃ W, w.alloc (.cells #[.int .i64 0, .int .i64 0, .int .i64 0, .int .i64 0, .int .i64 0] 27) = W := ⟨_, rfl⟩
  replace BT := Lib.hid (BT.out.below ((Below.refl _ _).alloc K.out.size (.cells #[.int .i64 0, .int .i64 0, .int .i64 0, .int .i64 0, .int .i64 0] 27)))
  replace K := Lib.hid (K.out.alloc K.out.size (.cells #[.int .i64 0, .int .i64 0, .int .i64 0, .int .i64 0, .int .i64 0] 27))
  have R0 := Lib.hid (heap1 w (.cells #[.int .i64 0, .int .i64 0, .int .i64 0, .int .i64 0, .int .i64 0] 27))
  rw [hV0] at BT K R0
  have sV0 : w.heap.size < V0.heap.size := by rw [← hV0]; simp
  obtain ⟨V1, hV1⟩ : ∃ W, V0.alloc (.cells #[.int .i64 0, .int .i64 0, .int .i64 0, .int .i64 0, .int .i64 0, .string ⟨#[]⟩, .bool false] 39) = W := ⟨_, rfl⟩
  replace BT := Lib.hid (BT.out.below ((Below.refl _ _).alloc K.out.size (.cells #[.int .i64 0, .int .i64 0, .int .i64 0, .int .i64 0, .int .i64 0, .string ⟨#[]⟩, .bool false] 39)))
  replace K := Lib.hid (K.out.alloc K.out.size (.cells #[.int .i64 0, .int .i64 0, .int .i64 0, .int .i64 0, .int .i64 0, .string ⟨#[]⟩, .bool false] 39))
  replace R0 := Lib.hid (alloc_blk (o := .cells #[.int .i64 0, .int .i64 0, .int .i64 0, .int .i64 0, .int .i64 0, .string ⟨#[]⟩, .bool false] 39) R0.out)
  have R1 := Lib.hid (heap1 V0 (.cells #[.int .i64 0, .int .i64 0, .int .i64 0, .int .i64 0, .int .i64 0, .string ⟨#[]⟩, .bool false] 39))
  rw [hV1] at BT K R0 R1
  have sV1 : V0.heap.size < V1.heap.size := by rw [← hV1]; simp
  go_wp2_with fail
  refine (l1New_any _ A n cap hn (BT.out.up K.out.size)).mono ?_
  rintro e w1 ⟨rfl, h0, c, b⟩
  replace BT := Lib.hid (BT.out.below (b.mono K.out.size))
  replace K := Lib.hid (K.out.trans (b.mono K.out.size))
  replace R0 := Lib.hid (blk_on b R0.out)
  replace R1 := Lib.hid (blk_on b R1.out)
  have C := Lib.hid c
  have hcl := c.lt
  have sw1 := b.size
  have sK := K.out.size
  clear b c
  clear hV0 hV1
  go_wp2_with fail
  refine (l5Draw_any _ _ A n cap 0 h0 hn C.out).mono ?_
  rintro e w2 ⟨⟨⟨ku, ks, kh, ka⟩, y⟩, i2, h2, rfl, c, b⟩
  replace BT := Lib.hid (BT.out.below ((Below.refl _ _).grown b K.out.size (fun k e => by have e1 := Option.some.inj e; omega)))
  replace K := Lib.hid (below_off K.out b ⟨by omega, K.out.size⟩)
  replace R0 := Lib.hid (blk_kept b R0.out (by omega))
  replace R1 := Lib.hid (blk_kept b R1.out (by omega))
  replace C := Lib.hid c
  have sw2 := b.size
  clear b c
  have HV : Hid (RowV.val ⟨⟨ku, ks, kh, ka⟩, y⟩ = .agg #[.int .i64 ku, .int .i64 ks, .int .i64 kh, .int .i64 ka, .int .i64 y]) := rfl
  rw [HV.out]
  obtain ⟨W3, hW3⟩ : ∃ W, w2.alloc (.cells #[.int .i64 ku, .int .i64 ks, .int .i64 kh, .int .i64 ka, .int .i64 y] 27) = W := ⟨_, rfl⟩
  replace BT := Lib.hid (BT.out.below ((Below.refl _ _).alloc K.out.size (.cells #[.int .i64 ku, .int .i64 ks, .int .i64 kh, .int .i64 ka, .int .i64 y] 27)))
  replace K := Lib.hid (K.out.alloc K.out.size (.cells #[.int .i64 ku, .int .i64 ks, .int .i64 kh, .int .i64 ka, .int .i64 y] 27))
  replace R0 := Lib.hid (alloc_blk (o := .cells #[.int .i64 ku, .int .i64 ks, .int .i64 kh, .int .i64 ka, .int .i64 y] 27) R0.out)
  replace R1 := Lib.hid (alloc_blk (o := .cells #[.int .i64 ku, .int .i64 ks, .int .i64 kh, .int .i64 ka, .int .i64 y] 27) R1.out)
  replace C := Lib.hid (C.out.alloc (.cells #[.int .i64 ku, .int .i64 ks, .int .i64 kh, .int .i64 ka, .int .i64 y] 27))
  have KR := Lib.hid (heap1 w2 (.cells #[.int .i64 ku, .int .i64 ks, .int .i64 kh, .int .i64 ka, .int .i64 y] 27))
  rw [hW3] at BT K R0 R1 C KR
  have sW3 : w2.heap.size < W3.heap.size := by rw [← hW3]; simp
  go_wp2
  clear hW3
  have pL : V1.heap.size ∉ ([] : List Nat) := by simp <;> omega
  have pB : w.heap.size ≤ V1.heap.size := by omega
  have pLB : ∀ k ∈ ([] : List Nat), w.heap.size ≤ k := by simp
  refine wp_region_cur (W := W3) [] pL C.out BT.out pB pLB (fun _ => True) (stays_true) (trivial) [0, 0, 0, 0, 0, 1, 0, 1, 0, 2, 3] (by kernel_rfl) (by kernel_rfl) (by kernel_rfl) ?_
  have fk : ∀ q : In (curEnv W3 [] V1.heap.size A n cap pL ⟨_, _, C.out⟩ BT.out pB pLB), _ := fun q => (blk5 (q.blkc KR.out (by simp; omega))).1
  refine wpO_quiet 5 rfl (by kernel_rfl) ?_
  simp only [List.take, List.drop]
  repeat (go_big_quiet_step (fail))
  refine wpQuiet_nil ?_
  refine wpO_callx (f := 53) (args := #[.pointer (some ⟨V1.heap.size, 0, none⟩)]) (α := ByteArray) (fun s => .string s) (fun _ => []) (fun _ _ => True) rfl (fun w' => by simp [go_sem]) (fun _ => stays_true) (fun _ => ⟨ByteArray.empty, fun g hg => by cases hg⟩) (fun w' hw _ => ?_) (fun s _ => ?_)
  · obtain ⟨_, i', h', c'⟩ := hw
    exact (l1DrawText_any _ _ A n cap i' h' hn c').mono fun e w'' ⟨s, i1, h1, hs, he, c1, b1⟩ => ⟨s, he, trivial, ⟨b1, i1, h1, c1⟩, fun k hk => by cases hk⟩
  simp only [Act.put, List.setIfInBounds_toArray, List.set_cons_succ, List.set_cons_zero]
  refine wpO_quiet 1 rfl (by kernel_rfl) ?_
  simp only [List.take, List.drop]
  repeat (go_big_quiet_step (fail))
  refine wpQuiet_nil ?_
  refine wpO_callx (f := 54) (args := #[.pointer (some ⟨V1.heap.size, 0, none⟩), .int .i64 6]) (α := Bool) (fun s => .bool s) (fun _ => []) (fun _ _ => True) rfl (fun w' => by simp [go_sem]) (fun _ => stays_true) (fun _ => ⟨true, fun g hg => by cases hg⟩) (fun w' hw _ => ?_) (fun o _ => ?_)
  · obtain ⟨_, i', h', c'⟩ := hw
    exact (l1Once_any _ _ A n cap i' h' 6 hn (by omega) (by omega) c').mono fun e w'' ⟨s, i1, h1, he, c1, b1⟩ => ⟨s, he, trivial, ⟨b1, i1, h1, c1⟩, fun k hk => by cases hk⟩
  simp only [Act.put, List.setIfInBounds_toArray, List.set_cons_succ, List.set_cons_zero]
  refine wpO_quiet 1 rfl (by kernel_rfl) ?_
  simp only [List.take, List.drop]
  repeat (go_big_quiet_step (fail))
  refine wpQuiet_nil ?_
  refine wpO_alloc (.cells #[.int .i64 0, .int .i64 0, .int .i64 0, .int .i64 0, .int .i64 0, .string ⟨#[]⟩, .bool false] 39) rfl (fun w' => by simp [go_sem]) fun g6 mg6 _ => ?_
  have hg6 : W3.heap.size ≤ g6 := mg6
  simp only [Act.put, List.setIfInBounds_toArray, List.set_cons_succ, List.set_cons_zero]
  refine wpO_store (g := g6) (t := 39) (old := #[.int .i64 0, .int .i64 0, .int .i64 0, .int .i64 0, .int .i64 0, .string ⟨#[]⟩, .bool false]) (fun _ => True) #[.int .i64 ku, .int .i64 ks, .int .i64 kh, .int .i64 ka, .int .i64 y, .string s, .bool o] rfl rfl rfl rfl (Env.own _ mg6) (by kernel_rfl) rfl rfl (fun w' h => ⟨trivial, h.2⟩) stays_true (away_true _) ?_
  refine wpO_nil ?_
  rintro w4 ⟨b4, i4, h4, c4⟩ ⟨_, H4⟩
  have b := b4.only
  clear fk b4
  replace BT := Lib.hid (BT.out.below ((Below.refl _ _).grown b K.out.size (fun k e => by have e1 := Option.some.inj e; omega)))
  replace K := Lib.hid (below_off K.out b ⟨by omega, K.out.size⟩)
  replace R0 := Lib.hid (blk_kept b R0.out (by omega))
  replace R1 := Lib.hid (blk_kept b R1.out (by omega))
  replace C := Lib.hid c4
  replace KR := Lib.hid (blk_kept b KR.out (by omega))
  have X := Lib.hid H4
  have sw4 := b.size
  have hg6x := blk_in H4
  clear b c4 H4
  go_wp2_with fail
  refine (l1Once_any _ _ A n cap i4 h4 4 hn (by omega) (by omega) C.out).mono ?_
  rintro e w5 ⟨p, i5, h5, rfl, c, b⟩
  replace BT := Lib.hid (BT.out.below ((Below.refl _ _).grown b K.out.size (fun k e => by have e1 := Option.some.inj e; omega)))
  replace K := Lib.hid (below_off K.out b ⟨by omega, K.out.size⟩)
  replace R0 := Lib.hid (blk_kept b R0.out (by omega))
  replace R1 := Lib.hid (blk_kept b R1.out (by omega))
  replace C := Lib.hid c
  replace KR := Lib.hid (blk_kept b KR.out (by omega))
  replace X := Lib.hid (blk_kept b X.out (by omega))
  have sw5 := b.size
  clear b c
  cases p with
  | false =>
    go_wp2
    refine wp_region_own (W := w5) [w.heap.size, V0.heap.size] (fun w' => w'.heap[w.heap.size]? = some (.cells #[.int .i64 0, .int .i64 0, .int .i64 0, .int .i64 0, .int .i64 0] 27) ∧ w'.heap[V0.heap.size]? = some (.cells #[.int .i64 0, .int .i64 0, .int .i64 0, .int .i64 0, .int .i64 0, .string ⟨#[]⟩, .bool false] 39)) (stays_and (stays_blk (E := plainEnv w5 [w.heap.size, V0.heap.size]) (Or.inr (by simp)) _) (stays_blk (Or.inr (by simp)) _)) ⟨R0.out, R1.out⟩ [0, 0, 3, 3] (by kernel_rfl) (by kernel_rfl) (by kernel_rfl) ?_
    have f1 : ∀ q : In (plainEnv w5 [w.heap.size, V0.heap.size]), _ := fun q => (blk5 (q.block KR.out (by simp; omega))).1
    have f2 : ∀ q : In (plainEnv w5 [w.heap.size, V0.heap.size]), _ := fun q => (blk7 (q.block X.out (by simp; omega))).1
    refine wpO_quiet 2 rfl (by kernel_rfl) ?_
    simp only [List.take, List.drop]
    repeat (go_big_quiet_step (fail))
    refine wpQuiet_nil ?_
    refine wpO_store (g := w.heap.size) (t := 27) (old := #[.int .i64 0, .int .i64 0, .int .i64 0, .int .i64 0, .int .i64 0]) (fun w' => w'.heap[V0.heap.size]? = some (.cells #[.int .i64 0, .int .i64 0, .int .i64 0, .int .i64 0, .int .i64 0, .string ⟨#[]⟩, .bool false] 39)) #[.int .i64 ku, .int .i64 ks, .int .i64 kh, .int .i64 ka, .int .i64 y] rfl rfl rfl rfl (Or.inr (by simp)) (by kernel_rfl) rfl rfl (fun w' h => ⟨h.2, h.1⟩) (stays_blk (Or.inr (by simp)) _) (away_blk (by omega) _) ?_
    refine wpO_store (g := V0.heap.size) (t := 39) (old := #[.int .i64 0, .int .i64 0, .int .i64 0, .int .i64 0, .int .i64 0, .string ⟨#[]⟩, .bool false]) (fun w' => w'.heap[w.heap.size]? = some (.cells #[.int .i64 ku, .int .i64 ks, .int .i64 kh, .int .i64 ka, .int .i64 y] 27)) #[.int .i64 ku, .int .i64 ks, .int .i64 kh, .int .i64 ka, .int .i64 y, .string s, .bool o] rfl rfl rfl rfl (Or.inr (by simp)) (by kernel_rfl) rfl rfl (fun w' h => ⟨h.2, h.1⟩) (stays_blk (Or.inr (by simp)) _) (away_blk (by omega) _) ?_
    refine wpO_nil ?_
    rintro w9 b9 ⟨H0, H1⟩
    clear f1 f2
    have B9 : Hid (Below w.heap.size w w9) := K.out.trans (KeptBut.below b9 K.out.size (by simp; omega))
    have H0' := Lib.hid H0
    have H1' := Lib.hid H1
    clear H0 H1 b9
    go_wp2
    exact row_ret_two (r := w.heap.size) (r' := V0.heap.size) (cs := #[.int .i64 ku, .int .i64 ks, .int .i64 kh, .int .i64 ka, .int .i64 y]) (cs' := #[.int .i64 ku, .int .i64 ks, .int .i64 kh, .int .i64 ka, .int .i64 y, .string s, .bool o]) rfl rfl rfl H0'.out Try.underlying27 rfl (by kernel_rfl) H1'.out Try.underlying39 rfl (by kernel_rfl) rfl ⟨⟨⟨ku, ks, kh, ka⟩, y⟩, ⟨⟨ku, ks, kh, ka⟩, y, s, o⟩, rfl, B9.out⟩
  | true =>
    go_wp2_with fail
    refine (l4DrawAny_any _ _ A n cap i5 h5 hn C.out).mono ?_
    rintro e w6 ⟨⟨⟨xu, xs, xh, xa⟩, xn, xt, xp⟩, i6, h6, rfl, c, b⟩
    replace BT := Lib.hid (BT.out.below ((Below.refl _ _).grown b K.out.size (fun k e => by have e1 := Option.some.inj e; omega)))
    replace K := Lib.hid (below_off K.out b ⟨by omega, K.out.size⟩)
    replace R0 := Lib.hid (blk_kept b R0.out (by omega))
    replace R1 := Lib.hid (blk_kept b R1.out (by omega))
    replace C := Lib.hid c
    replace KR := Lib.hid (blk_kept b KR.out (by omega))
    replace X := Lib.hid (blk_kept b X.out (by omega))
    have sw6 := b.size
    clear b c
    have HW : Hid (BoxV.val ⟨⟨xu, xs, xh, xa⟩, xn, xt, xp⟩ = .agg #[.int .i64 xu, .int .i64 xs, .int .i64 xh, .int .i64 xa, .int .i64 xn, .string xt, .bool xp]) := rfl
    rw [HW.out]
    obtain ⟨W7, hW7⟩ : ∃ W, setAll w6 g6 0 (BoxV.cells ⟨⟨xu, xs, xh, xa⟩, xn, xt, xp⟩) = W := ⟨_, rfl⟩
    obtain ⟨⟨d0, d1, d2, d3, d4, d5, d6⟩, f0, f1, f2, f3, f4, f5, f6⟩ := blk7 X.out
    have hW : (((((((w6.setCell ⟨g6, 0, none⟩ (.int .i64 xu)).setCell ⟨g6, 1, none⟩ (.int .i64 xs)).setCell ⟨g6, 2, none⟩ (.int .i64 xh)).setCell ⟨g6, 3, none⟩ (.int .i64 xa)).setCell ⟨g6, 4, none⟩ (.int .i64 xn)).setCell ⟨g6, 5, none⟩ (.string xt)).setCell ⟨g6, 6, none⟩ (.bool xp)) = W7 := hW7
    replace R0 := Lib.hid (setAll_away (g := g6) (by omega) (BoxV.cells ⟨⟨xu, xs, xh, xa⟩, xn, xt, xp⟩) 0 R0.out)
    replace R1 := Lib.hid (setAll_away (g := g6) (by omega) (BoxV.cells ⟨⟨xu, xs, xh, xa⟩, xn, xt, xp⟩) 0 R1.out)
    replace KR := Lib.hid (setAll_away (g := g6) (by omega) (BoxV.cells ⟨⟨xu, xs, xh, xa⟩, xn, xt, xp⟩) 0 KR.out)
    replace X := Lib.hid (setAll_whole (vs := BoxV.cells ⟨⟨xu, xs, xh, xa⟩, xn, xt, xp⟩) X.out rfl)
    replace K := Lib.hid (setAll_below (g := g6) (by omega) (BoxV.cells ⟨⟨xu, xs, xh, xa⟩, xn, xt, xp⟩) 0 K.out)
    rw [hW7] at R0 R1 KR X K
    clear hW7 BT C
    go_wp2
    clear hW d0 d1 d2 d3 d4 d5 d6 f0 f1 f2 f3 f4 f5 f6
    refine wp_region_own (W := W7) [w.heap.size, V0.heap.size] (fun w' => w'.heap[w.heap.size]? = some (.cells #[.int .i64 0, .int .i64 0, .int .i64 0, .int .i64 0, .int .i64 0] 27) ∧ w'.heap[V0.heap.size]? = some (.cells #[.int .i64 0, .int .i64 0, .int .i64 0, .int .i64 0, .int .i64 0, .string ⟨#[]⟩, .bool false] 39)) (stays_and (stays_blk (E := plainEnv W7 [w.heap.size, V0.heap.size]) (Or.inr (by simp)) _) (stays_blk (Or.inr (by simp)) _)) ⟨R0.out, R1.out⟩ [0, 0, 3, 3] (by kernel_rfl) (by kernel_rfl) (by kernel_rfl) ?_
    have f1 : ∀ q : In (plainEnv W7 [w.heap.size, V0.heap.size]), _ := fun q => (blk5 (q.block KR.out (by simp; omega))).1
    have f2 : ∀ q : In (plainEnv W7 [w.heap.size, V0.heap.size]), _ := fun q => (blk7 (q.block X.out (by simp; omega))).1
    refine wpO_quiet 2 rfl (by kernel_rfl) ?_
    simp only [List.take, List.drop]
    repeat (go_big_quiet_step (fail))
    refine wpQuiet_nil ?_
    refine wpO_store (g := w.heap.size) (t := 27) (old := #[.int .i64 0, .int .i64 0, .int .i64 0, .int .i64 0, .int .i64 0]) (fun w' => w'.heap[V0.heap.size]? = some (.cells #[.int .i64 0, .int .i64 0, .int .i64 0, .int .i64 0, .int .i64 0, .string ⟨#[]⟩, .bool false] 39)) #[.int .i64 ku, .int .i64 ks, .int .i64 kh, .int .i64 ka, .int .i64 y] rfl rfl rfl rfl (Or.inr (by simp)) (by kernel_rfl) rfl rfl (fun w' h => ⟨h.2, h.1⟩) (stays_blk (Or.inr (by simp)) _) (away_blk (by omega) _) ?_
    refine wpO_store (g := V0.heap.size) (t := 39) (old := #[.int .i64 0, .int .i64 0, .int .i64 0, .int .i64 0, .int .i64 0, .string ⟨#[]⟩, .bool false]) (fun w' => w'.heap[w.heap.size]? = some (.cells #[.int .i64 ku, .int .i64 ks, .int .i64 kh, .int .i64 ka, .int .i64 y] 27)) #[.int .i64 xu, .int .i64 xs, .int .i64 xh, .int .i64 xa, .int .i64 xn, .string xt, .bool xp] rfl rfl rfl rfl (Or.inr (by simp)) (by kernel_rfl) rfl rfl (fun w' h => ⟨h.2, h.1⟩) (stays_blk (Or.inr (by simp)) _) (away_blk (by omega) _) ?_
    refine wpO_nil ?_
    rintro w9 b9 ⟨H0, H1⟩
    clear f1 f2
    have B9 : Hid (Below w.heap.size w w9) := K.out.trans (KeptBut.below b9 K.out.size (by simp; omega))
    have H0' := Lib.hid H0
    have H1' := Lib.hid H1
    clear H0 H1 b9
    go_wp2
    exact row_ret_two (r := w.heap.size) (r' := V0.heap.size) (cs := #[.int .i64 ku, .int .i64 ks, .int .i64 kh, .int .i64 ka, .int .i64 y]) (cs' := #[.int .i64 xu, .int .i64 xs, .int .i64 xh, .int .i64 xa, .int .i64 xn, .string xt, .bool xp]) rfl rfl rfl H0'.out Try.underlying27 rfl (by kernel_rfl) H1'.out Try.underlying39 rfl (by kernel_rfl) rfl ⟨⟨⟨ku, ks, kh, ka⟩, y⟩, ⟨⟨xu, xs, xh, xa⟩, xn, xt, xp⟩, rfl, B9.out⟩

set_option maxHeartbeats 4000000 in
theorem DrawTakeAll_any (w : World) (A : Option Addr) (n cap : Nat) (hn : n ≤ 4096) (hb : BytesAt w w.heap.size A n) :
    Calls Try.prog 12 #[.slice A n cap] w (TakeAllIn w) := by
  have K := Lib.hid (Below.refl w.heap.size w)
  have BT := Lib.hid hb
  clear hb
  go_enter Try.func12, Try.ntmps12
  obtain ⟨V0, hV0⟩ : ∃ W, w.alloc (.cells #[.int .i64 0, .int .i64 0, .int .i64 0, .int .i64 0, .int .i64 0] 27) = W := ⟨_, rfl⟩
  replace BT := Lib.hid (BT.out.below ((Below.refl _ _).alloc K.out.size (.cells #[.int .i64 0, .int .i64 0, .int .i64 0, .int .i64 0, .int .i64 0] 27)))
  replace K := Lib.hid (K.out.alloc K.out.size (.cells #[.int .i64 0, .int .i64 0, .int .i64 0, .int .i64 0, .int .i64 0] 27))
  have R0 := Lib.hid (heap1 w (.cells #[.int .i64 0, .int .i64 0, .int .i64 0, .int .i64 0, .int .i64 0] 27))
  rw [hV0] at BT K R0
  have sV0 : w.heap.size < V0.heap.size := by rw [← hV0]; simp
  go_wp2_with fail
  refine (l1New_any _ A n cap hn (BT.out.up K.out.size)).mono ?_
  rintro e w1 ⟨rfl, h0, c, b⟩
  replace BT := Lib.hid (BT.out.below (b.mono K.out.size))
  replace K := Lib.hid (K.out.trans (b.mono K.out.size))
  replace R0 := Lib.hid (blk_on b R0.out)
  have C := Lib.hid c
  have hcl := c.lt
  have sw1 := b.size
  have sK := K.out.size
  clear b c
  clear hV0
  go_wp2_with fail
  refine (l5Draw_any _ _ A n cap 0 h0 hn C.out).mono ?_
  rintro e w2 ⟨⟨⟨ku, ks, kh, ka⟩, y⟩, i2, h2, rfl, c, b⟩
  replace BT := Lib.hid (BT.out.below ((Below.refl _ _).grown b K.out.size (fun k e => by have e1 := Option.some.inj e; omega)))
  replace K := Lib.hid (below_off K.out b ⟨by omega, K.out.size⟩)
  replace R0 := Lib.hid (blk_kept b R0.out (by omega))
  replace C := Lib.hid c
  have sw2 := b.size
  clear b c
  have HV : Hid (RowV.val ⟨⟨ku, ks, kh, ka⟩, y⟩ = .agg #[.int .i64 ku, .int .i64 ks, .int .i64 kh, .int .i64 ka, .int .i64 y]) := rfl
  rw [HV.out]
  obtain ⟨W3, hW3⟩ : ∃ W, w2.alloc (.cells #[.int .i64 ku, .int .i64 ks, .int .i64 kh, .int .i64 ka, .int .i64 y] 27) = W := ⟨_, rfl⟩
  replace BT := Lib.hid (BT.out.below ((Below.refl _ _).alloc K.out.size (.cells #[.int .i64 ku, .int .i64 ks, .int .i64 kh, .int .i64 ka, .int .i64 y] 27)))
  replace K := Lib.hid (K.out.alloc K.out.size (.cells #[.int .i64 ku, .int .i64 ks, .int .i64 kh, .int .i64 ka, .int .i64 y] 27))
  replace R0 := Lib.hid (alloc_blk (o := .cells #[.int .i64 ku, .int .i64 ks, .int .i64 kh, .int .i64 ka, .int .i64 y] 27) R0.out)
  replace C := Lib.hid (C.out.alloc (.cells #[.int .i64 ku, .int .i64 ks, .int .i64 kh, .int .i64 ka, .int .i64 y] 27))
  have KR := Lib.hid (heap1 w2 (.cells #[.int .i64 ku, .int .i64 ks, .int .i64 kh, .int .i64 ka, .int .i64 y] 27))
  rw [hW3] at BT K R0 C KR
  have sW3 : w2.heap.size < W3.heap.size := by rw [← hW3]; simp
  go_wp2
  clear hW3
  have pL : V0.heap.size ∉ ([] : List Nat) := by simp <;> omega
  have pB : w.heap.size ≤ V0.heap.size := by omega
  have pLB : ∀ k ∈ ([] : List Nat), w.heap.size ≤ k := by simp
  refine wp_region_cur (W := W3) [] pL C.out BT.out pB pLB (fun _ => True) (stays_true) (trivial) [0, 0, 1, 1, 0, 0, 0, 2, 3, 0] (by kernel_rfl) (by kernel_rfl) (by kernel_rfl) ?_
  have fk : ∀ q : In (curEnv W3 [] V0.heap.size A n cap pL ⟨_, _, C.out⟩ BT.out pB pLB), _ := fun q => (blk5 (q.blkc KR.out (by simp; omega))).1
  refine wpO_quiet 2 rfl (by kernel_rfl) ?_
  simp only [List.take, List.drop]
  repeat (go_big_quiet_step (fail))
  refine wpQuiet_nil ?_
  refine wpO_callx (f := 44) (args := #[.pointer (some ⟨V0.heap.size, 0, none⟩)]) (α := { x : List ByteArray × Nat × Nat // x.1.length ≤ 5 }) (fun x => .slice (some ⟨x.1.2.1, 0, none⟩) x.1.1.length x.1.2.2) (fun x => [x.1.2.1]) (fun x w' => MadeS w' W3.heap.size x.1.1 x.1.2.1 x.1.2.2) rfl (fun w' => by simp [go_sem]) (fun x w1 w2 hw h b => ?_) (fun G => ?_) (fun w' hw _ => ?_) (fun x hx => ?_)
  · exact h.kept b.1 (by intro e; have e1 := Option.some.inj e; have := h.base; omega)
  · obtain ⟨g, hg, hn⟩ := fresh_above W3.heap.size G
    exact ⟨⟨([], g, 0), by simp⟩, fun k hk => by simp at hk; subst hk; exact ⟨hg, hn⟩⟩
  · obtain ⟨hkb, i', h', c'⟩ := hw
    exact (l1DrawList_any _ _ A n cap i' h' hn c').mono fun e w'' ⟨ss, gb, cb, i1, h1, hs, he, m1, c1, b1⟩ => ⟨⟨(ss, gb, cb), hs⟩, he, MadeG.mono ⟨m1.own⟩ hkb.size, ⟨b1, i1, h1, c1⟩, fun k hk => by simp at hk; subst hk; exact m1.base⟩
  obtain ⟨⟨ss, ga, ca⟩, hss⟩ := x
  have hga0 : W3.heap.size ≤ ga := (hx ga (by simp)).1
  dsimp only at hss ⊢
  obtain ⟨⟨⟨qu, qs, qh, qa⟩, qn⟩, hq⟩ : ∃ x, (if rowOkB ⟨⟨ku, ks, kh, ka⟩, y⟩ then putAllR ⟨⟨ku, ks, kh, ka⟩, y⟩ ss else .zero) = x := ⟨_, rfl⟩
  obtain ⟨bs, hbs⟩ : ∃ x, (if rowOkB ⟨⟨ku, ks, kh, ka⟩, y⟩ then putAllL ⟨⟨ku, ks, kh, ka⟩, y⟩ ss else []) = x := ⟨_, rfl⟩
  have hbl : bs.length ≤ 5 := by
    rw [← hbs]
    split
    · exact Nat.le_trans (putAllL_length ss _) hss
    · exact Nat.zero_le _
  simp only [Act.put, List.setIfInBounds_toArray, List.set_cons_succ, List.set_cons_zero]
  refine wpO_callx (f := 18) (args := #[.agg #[.int .i64 ku, .int .i64 ks, .int .i64 kh, .int .i64 ka, .int .i64 y], .slice (some ⟨ga, 0, none⟩) ss.length ca]) (α := Nat × Nat) (fun x => .tuple #[.agg #[.int .i64 qu, .int .i64 qs, .int .i64 qh, .int .i64 qa, .int .i64 qn], .slice (some ⟨x.1, 0, none⟩) bs.length x.2]) (fun x => [x.1]) (fun x w' => MadeB w' W3.heap.size bs x.1 x.2) rfl (fun w' => by simp [go_sem]) (fun x w1 w2 hw h b => ?_) (fun G => ?_) (fun w' hw hF => ?_) (fun x hx => ?_)
  · exact h.kept b.1 (by intro e; have e1 := Option.some.inj e; have := h.base; omega)
  · obtain ⟨g, hg, hn⟩ := fresh_above W3.heap.size G
    exact ⟨(g, 0), fun k hk => by simp at hk; subst hk; exact ⟨hg, hn⟩⟩
  · obtain ⟨hkb, i', h', c'⟩ := hw
    have h1 := PutAll_spec ⟨⟨ku, ks, kh, ka⟩, y⟩ _ _ ca ss w' (madeS_strs hF.2) (by omega)
    unfold PutAllOut at h1
    rw [hq, hbs] at h1
    exact h1.mono fun e w'' ⟨gb, cb, he, m1, b1⟩ => ⟨(gb, cb), he, m1.mono hkb.size, ⟨⟨b1.os, b1.tape, b1.output, b1.size, fun k hk _ => b1.block k hk⟩, i', h', c'.below (b1.mono c'.lt)⟩, fun k hk => by simp at hk; subst hk; exact m1.base⟩
  obtain ⟨gb, cb⟩ := x
  have hgb0 : W3.heap.size ≤ gb := (hx gb (by simp)).1
  dsimp only
  clear hq hbs
  simp only [Act.put, List.setIfInBounds_toArray, List.set_cons_succ, List.set_cons_zero]
  refine wpO_quiet 3 rfl (by kernel_rfl) ?_
  simp only [List.take, List.drop]
  repeat (go_big_quiet_step (fail))
  refine wpQuiet_nil ?_
  refine wpO_alloc (.cells #[.int .i64 0, .int .i64 0, .int .i64 0, .int .i64 0, .int .i64 0] 27) rfl (fun w' => by simp [go_sem]) fun g6 mg6 hn6 => ?_
  have hg6 : W3.heap.size ≤ g6 := mg6
  have hne6 : gb ≠ g6 := fun e => hn6 (by rw [← e]; simp)
  simp only [Act.put, List.setIfInBounds_toArray, List.set_cons_succ, List.set_cons_zero]
  refine wpO_store (g := g6) (t := 27) (old := #[.int .i64 0, .int .i64 0, .int .i64 0, .int .i64 0, .int .i64 0]) (fun w' => MadeB w' W3.heap.size bs gb cb) #[.int .i64 qu, .int .i64 qs, .int .i64 qh, .int .i64 qa, .int .i64 qn] rfl rfl rfl rfl (Env.own _ mg6) (by kernel_rfl) rfl rfl (fun w' h => ⟨h.1.2, h.2⟩) (fun w1 w2 hw h b => h.kept b.1 (by intro e; have e1 := Option.some.inj e; have := h.base; omega)) (fun w1 w2 hw h => h.heap (hw gb h.base.2 hne6)) ?_
  simp only [Act.put]
  refine wpO_quiet 1 rfl (by kernel_rfl) ?_
  simp only [List.take, List.drop]
  repeat (go_big_quiet_step (fail))
  refine wpQuiet_nil ?_
  refine wpO_nil ?_
  rintro w4 ⟨b4, i4, h4, c4⟩ ⟨H4, _⟩
  have b := b4.only
  clear fk b4
  replace BT := Lib.hid (BT.out.below ((Below.refl _ _).grown b K.out.size (fun k e => by have e1 := Option.some.inj e; omega)))
  replace K := Lib.hid (below_off K.out b ⟨by omega, K.out.size⟩)
  replace R0 := Lib.hid (blk_kept b R0.out (by omega))
  replace C := Lib.hid c4
  replace KR := Lib.hid (blk_kept b KR.out (by omega))
  have M := Lib.hid H4
  have sw4 := b.size
  clear b c4 H4
  go_wp2_with fail
  refine (l1Below_any _ _ A n cap i4 h4 3 hn (by omega) (by omega) C.out).mono ?_
  rintro e w5 ⟨m0, i5, h5, ⟨hm0, hm1⟩, rfl, c, b⟩
  replace BT := Lib.hid (BT.out.below ((Below.refl _ _).grown b K.out.size (fun k e => by have e1 := Option.some.inj e; omega)))
  replace K := Lib.hid (below_off K.out b ⟨by omega, K.out.size⟩)
  replace R0 := Lib.hid (blk_kept b R0.out (by omega))
  replace C := Lib.hid c
  replace KR := Lib.hid (blk_kept b KR.out (by omega))
  replace M := Lib.hid (M.out.kept b (by intro e; have e1 := Option.some.inj e; omega))
  have sw5 := b.size
  clear b c
  obtain ⟨m0, rfl⟩ := Int.eq_ofNat_of_zero_le hm0
  have M0 : Hid (TakeDraw w V0.heap.size W3.heap.size w2.heap.size ⟨⟨ku, ks, kh, ka⟩, y⟩ A n cap m0 (.slice (some ⟨gb, 0, none⟩) bs.length cb) w5) := ⟨bs, gb, cb, i5, h5, rfl, by omega, M.out, C.out, R0.out, KR.out, K.out⟩
  clear M C R0 KR K BT
  go_wp2
  go_loopw [7, 8] (fun v i wr => ∃ m : Nat, m ≤ 2 ∧ i = .int .i64 m ∧ TakeDraw w V0.heap.size W3.heap.size w2.heap.size ⟨⟨ku, ks, kh, ka⟩, y⟩ A n cap m v wr) (fun _ i _ => (intOf i).toNat)
  case atStart => exact ⟨m0, by omega, rfl, M0.out⟩
  case round =>
    obtain ⟨m, hm, rfl, bs, gb, cb, i6, h6, rfl, hlen, hM, hC, hR, hKR, hK⟩ := hrel
    have M := Lib.hid hM
    have C := Lib.hid hC
    have R0 := Lib.hid hR
    have KR := Lib.hid hKR
    have K := Lib.hid hK
    have hMb := hM.base
    have sK := hK.size
    have hCl := hC.lt
    clear hM hC hR hKR hK
    by_cases hm0 : 0 < m
    · have hmi : (0 : Int) < (m : Int) := by omega
      by_cases hl0 : 0 < bs.length
      · have hli : (0 : Int) < (bs.length : Int) := by omega
        go_wp2_with fail
        refine (l1Below_any _ _ A n cap i6 h6 (bs.length : Int) hn (by omega) (by omega) C.out).mono ?_
        rintro e w7 ⟨kk, i7, h7, ⟨hk0, hk1⟩, rfl, c, b⟩
        replace M := Lib.hid (M.out.kept b (by intro e; have e1 := Option.some.inj e; omega))
        replace C := Lib.hid c
        replace R0 := Lib.hid (blk_kept b R0.out (by omega))
        replace KR := Lib.hid (blk_kept b KR.out (by omega))
        replace K := Lib.hid (below_off K.out b ⟨by omega, K.out.size⟩)
        have sw7 := b.size
        clear b c
        obtain ⟨k, rfl⟩ := Int.eq_ofNat_of_zero_le hk0
        have hk : k < bs.length := by omega
        go_wp2_with fail
        refine (l1Below_any _ _ A n cap i7 h7 3 hn (by omega) (by omega) C.out).mono ?_
        rintro e w8 ⟨vv, i8, h8, ⟨hv0, hv1⟩, rfl, c, b⟩
        replace M := Lib.hid (M.out.kept b (by intro e; have e1 := Option.some.inj e; omega))
        replace C := Lib.hid c
        replace R0 := Lib.hid (blk_kept b R0.out (by omega))
        replace KR := Lib.hid (blk_kept b KR.out (by omega))
        replace K := Lib.hid (below_off K.out b ⟨by omega, K.out.size⟩)
        have sw8 := b.size
        clear b c
        obtain ⟨xb, off, hxe, hxb, hxc⟩ := (MadeB.bxs M.out).2 hl0
        injection hxe with hxe
        injection hxe with hxe hxo _
        subst hxe hxo
        have hb8 := hxc k hk
        rw [Nat.zero_add] at hb8
        obtain ⟨⟨⟨xu, xs, xh, xa⟩, xn, xt, xp⟩, hx⟩ : ∃ x, bs[k]?.getD .zero = x := ⟨_, rfl⟩
        rw [hx] at hb8
        obtain ⟨e0, e1, e2, e3, e4, e5, e6⟩ := hb8
        dsimp only at e0 e1 e2 e3 e4 e5 e6
        obtain ⟨i0, by0, hi, hz0, hz1, hz2, hby⟩ := infoBoxE
        clear hxc hxb
        have hv : vv = 0 ∨ vv = 1 ∨ vv = 2 := by omega
        rcases hv with rfl | rfl | rfl
        · go_wp2_with (at_builtin; refine wpList_append_own _ rfl _ _ 31 rfl W3.heap.size 39 i0 BoxV.zero.val 7 by0 Try.underlying31 hi hz0 hz1 hz2 rfl (by decide) _ _ _ rfl (M.out.own.alloc _) ⟨w8.heap.size, 0, none⟩ 1 1 (BoxV.cells ⟨⟨xu, xs, xh, xa⟩, xn, xt, xp⟩) rfl rfl (cells_new w8 (BoxV.cells ⟨⟨xu, xs, xh, xa⟩, xn, xt, xp⟩) _) (by simp [BoxV.cells, Value.oneCell']) (by unfold maxLen; omega) (by have : (bs.length + 1) * by0 ≤ 8 * 100 := Nat.mul_le_mul (by omega) hby; omega) (by simp; omega) ?_; intro v' w9 hown' hgrow _; obtain ⟨gb', cb', rfl, hM'⟩ := MadeB.snoc hown'; have HM' := Lib.hid hM'; have HGR := Lib.hid hgrow; clear hown' hgrow hM')
          go_roundw
          case rel => exact ⟨m - 1, by omega, by go_num, bs ++ [⟨⟨xu, xs, xh, xa⟩, xn, xt, xp⟩], gb', cb', i8, h8, by simp <;> omega, by simp; omega, HM'.out, (C.out.alloc _).far (gb := gb) HGR.out (by omega), (HGR.out.block _ (by have := blk_in R0.out; simp; omega) (by intro e; have e1 := Option.some.inj e; dsimp only at e1; omega)).trans (alloc_blk R0.out), (HGR.out.block _ (by have := blk_in KR.out; simp; omega) (by intro e; have e1 := Option.some.inj e; dsimp only at e1; omega)).trans (alloc_blk KR.out), (K.out.alloc K.out.size _).grown HGR.out (by have := K.out.size; simp; omega) (by intro k' e; have e1 := Option.some.inj e; dsimp only at e1; omega)⟩
          case measure => simp [intOf]; omega
        · go_wp2_with fail
          refine (Spoil_spec ⟨⟨xu, xs, xh, xa⟩, xn, xt, xp⟩ _).mono ?_
          rintro e w9 ⟨rfl, b⟩
          replace M := Lib.hid (M.out.below b)
          replace R0 := Lib.hid (blk_on b R0.out)
          replace KR := Lib.hid (blk_on b KR.out)
          replace K := Lib.hid (K.out.trans (b.mono K.out.size))
          replace C := Lib.hid (C.out.below (b.mono C.out.lt))
          clear b e0 e1 e2 e3 e4 e5 e6
          have HS : Hid (BoxV.val (BoxV.spoil ⟨⟨xu, xs, xh, xa⟩, xn, xt, xp⟩) = .agg #[.int .i64 xu, .int .i64 xs, .int .i64 xh, .int .i64 xa, .int .i64 xn, .string xt, .bool true]) := rfl
          rw [HS.out]
          have hk0' : (0 : Int) ≤ (k : Int) := by omega
          have hkn' : (k : Int) < (bs.length : Int) := by omega
          obtain ⟨⟨v0, g0⟩, f0⟩ := M.out.room (k * 7) (by omega)
          obtain ⟨⟨v1, g1⟩, f1⟩ := M.out.room (k * 7 + 1) (by omega)
          obtain ⟨⟨v2, g2⟩, f2⟩ := M.out.room (k * 7 + 2) (by omega)
          obtain ⟨⟨v3, g3⟩, f3⟩ := M.out.room (k * 7 + 3) (by omega)
          obtain ⟨⟨v4, g4⟩, f4⟩ := M.out.room (k * 7 + 4) (by omega)
          obtain ⟨⟨v5, g5⟩, f5⟩ := M.out.room (k * 7 + 5) (by omega)
          obtain ⟨⟨v6, g6⟩, f6⟩ := M.out.room (k * 7 + 6) (by omega)
          have MS := Lib.hid (MadeB.set M.out k (BoxV.spoil ⟨⟨xu, xs, xh, xa⟩, xn, xt, xp⟩) hk)
          have RS := Lib.hid (setAll_away (g := gb) (by omega) (BoxV.cells (BoxV.spoil ⟨⟨xu, xs, xh, xa⟩, xn, xt, xp⟩)) (k * 7) R0.out)
          have KS := Lib.hid (setAll_away (g := gb) (by omega) (BoxV.cells (BoxV.spoil ⟨⟨xu, xs, xh, xa⟩, xn, xt, xp⟩)) (k * 7) KR.out)
          have BS := Lib.hid (setAll_below (g := gb) (by omega) (BoxV.cells (BoxV.spoil ⟨⟨xu, xs, xh, xa⟩, xn, xt, xp⟩)) (k * 7) K.out)
          have CS := Lib.hid (Cur.farAll (r := gb) (by omega) (BoxV.cells (BoxV.spoil ⟨⟨xu, xs, xh, xa⟩, xn, xt, xp⟩)) (k * 7) C.out)
          clear M R0 KR K C
          go_wp2
          go_roundw
          case rel => exact ⟨m - 1, by omega, by go_num, bs.set k (BoxV.spoil ⟨⟨xu, xs, xh, xa⟩, xn, xt, xp⟩), gb, cb, i8, h8, by simp, by simp; omega, MS.out, CS.out, RS.out, KS.out, BS.out⟩
          case measure => simp [intOf]; omega
        · have E1 : Hid ((w8.alloc (.cells #[.int .i64 xu, .int .i64 xs, .int .i64 xh, .int .i64 xa, .int .i64 xn, .string xt, .bool xp] 39)).ownsRow W3.heap.size 39 7 (.slice (some ⟨w8.heap.size, 0, none⟩) 1 1) 1 (BoxV.cells ⟨⟨xu, xs, xh, xa⟩, xn, xt, xp⟩)) := ⟨rfl, .inr ⟨w8.heap.size, 1, #[.int .i64 xu, .int .i64 xs, .int .i64 xh, .int .i64 xa, .int .i64 xn, .string xt, .bool xp], rfl, by omega, heap1 w8 _, Nat.le_refl _, by unfold maxLen; omega, rfl, rfl⟩⟩
          have hcap := M.out.cap
          unfold maxLen at hcap
          go_wp2_with (at_builtin; refine wpList_append_own _ rfl _ _ 31 rfl W3.heap.size 39 i0 BoxV.zero.val 7 by0 Try.underlying31 hi hz0 hz1 hz2 rfl (by decide) _ _ _ rfl E1.out ⟨gb, 0, none⟩ bs.length cb (bs.flatMap BoxV.cells) rfl (by rw [cells_flat]) (fun j u hu => (M.out.alloc _).own.cells (g := gb) rfl j u hu) (fun u hu => by obtain ⟨q, _, hq⟩ := List.mem_flatMap.1 hu; exact cells_one q u hq) (by unfold maxLen; omega) (by have : (1 + bs.length) * by0 ≤ 8 * 100 := Nat.mul_le_mul (by omega) hby; omega) (by simp; omega) ?_; intro v' w9 hown' hgrow hnil; obtain ⟨gb', cb', rfl, hM'⟩ := madeG_of hown' (by omega); have HM' : Hid (MadeB w9 W3.heap.size (⟨⟨xu, xs, xh, xa⟩, xn, xt, xp⟩ :: bs) gb' cb') := (by have e2 : (⟨⟨xu, xs, xh, xa⟩, xn, xt, xp⟩ :: bs).length = 1 + bs.length := (by simp; omega); unfold MadeB; rw [e2]; exact hM'); have HGR := Lib.hid hgrow; clear hown' hgrow hM' hnil)
          go_roundw
          case rel => exact ⟨m - 1, by omega, by go_num, ⟨⟨xu, xs, xh, xa⟩, xn, xt, xp⟩ :: bs, gb', cb', i8, h8, by simp <;> omega, by simp; omega, HM'.out, (C.out.alloc _).far (gb := w8.heap.size) HGR.out (by omega), (HGR.out.block _ (by have := blk_in R0.out; simp; omega) (by have := blk_in R0.out; intro e; have e1 := Option.some.inj e; dsimp only at e1; omega)).trans (alloc_blk R0.out), (HGR.out.block _ (by have := blk_in KR.out; simp; omega) (by have := blk_in KR.out; intro e; have e1 := Option.some.inj e; dsimp only at e1; omega)).trans (alloc_blk KR.out), (K.out.alloc K.out.size _).grown HGR.out (by have := K.out.size; simp; omega) (by intro k' e; have e1 := Option.some.inj e; dsimp only at e1; omega)⟩
          case measure => simp [intOf]; omega
      · have hl0i : ¬ (0 : Int) < (bs.length : Int) := by omega
        obtain ⟨⟨a0, a1, a2, a3, a4⟩, q0, q1, q2, q3, q4⟩ := blk5 R0.out
        obtain ⟨⟨d0, d1, d2, d3, d4⟩, _⟩ := blk5 KR.out
        go_wp2
        exact row_ret2 (r := w.heap.size) (cs := List.toArray (RowV.cells ⟨⟨ku, ks, kh, ka⟩, y⟩)) rfl rfl rfl (setAll_whole (w := wr) (vs := (RowV.cells ⟨⟨ku, ks, kh, ka⟩, y⟩)) R0.out rfl) Try.underlying27 rfl (by kernel_rfl) rfl ⟨⟨⟨ku, ks, kh, ka⟩, y⟩, bs, gb, cb, by omega, rfl, (M.out.heap (setAll_off (w := wr) (g := w.heap.size) (by omega) (RowV.cells ⟨⟨ku, ks, kh, ka⟩, y⟩) 0)).mono (by omega), setAll_below (w := wr) (Nat.le_refl _) (RowV.cells ⟨⟨ku, ks, kh, ka⟩, y⟩) 0 K.out⟩
    · have hmi : ¬ (0 : Int) < (m : Int) := by omega
      obtain ⟨⟨a0, a1, a2, a3, a4⟩, q0, q1, q2, q3, q4⟩ := blk5 R0.out
      obtain ⟨⟨d0, d1, d2, d3, d4⟩, _⟩ := blk5 KR.out
      go_wp2
      exact row_ret2 (r := w.heap.size) (cs := List.toArray (RowV.cells ⟨⟨ku, ks, kh, ka⟩, y⟩)) rfl rfl rfl (setAll_whole (w := wr) (vs := (RowV.cells ⟨⟨ku, ks, kh, ka⟩, y⟩)) R0.out rfl) Try.underlying27 rfl (by kernel_rfl) rfl ⟨⟨⟨ku, ks, kh, ka⟩, y⟩, bs, gb, cb, by omega, rfl, (M.out.heap (setAll_off (w := wr) (g := w.heap.size) (by omega) (RowV.cells ⟨⟨ku, ks, kh, ka⟩, y⟩) 0)).mono (by omega), setAll_below (w := wr) (Nat.le_refl _) (RowV.cells ⟨⟨ku, ks, kh, ka⟩, y⟩) 0 K.out⟩

end Go.Proofs.Ythkgidibonkfbaa.Tx

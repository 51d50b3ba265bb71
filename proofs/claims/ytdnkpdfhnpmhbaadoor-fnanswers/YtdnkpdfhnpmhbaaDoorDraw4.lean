/-
  What the model draws for chapter 4: a box, a key, a number. Condition: the draw's code has at most 4096 bytes.
-/
import Derived.Laws.MakeOwn
import Derived.Laws.BytesArg
import Derived.Deep.RegionHeld3
import Derived.Test.YtdnkpdfhnpmhbaaDoorDraw1t
import Derived.Test.YtdnkpdfhnpmhbaaDoorDraw3
import Derived.Test.YtdnkpdfhnpmhbaaDoorBox
namespace Go.Proofs.YtdnkpdfhnpmhbaaDoor.Tx
open Go.RowKit

theorem only_setAll {a : World} {g r : Nat} (hr : a.heap.size ≤ r) : ∀ (vs : List Value) (k : Nat) {w : World}, a.grownBy w (some g) → a.grownBy (setAll w r k vs) (some g)
  | [], _, _, h => h
  | v :: rest, k, _, h => only_setAll hr rest (k + 1) (only_setNew h (p := ⟨r, k, none⟩) hr v)
theorem Cur.farAll {g r : Nat} {A : Option Addr} {n cap : Nat} {i h : Int} (hr : g < r) : ∀ (vs : List Value) (k : Nat) {w : World}, Cur w g A n cap i h → Cur (setAll w r k vs) g A n cap i h
  | [], _, _, c => c
  | v :: rest, k, _, c => Cur.farAll hr rest (k + 1) (c.farSet (p := ⟨r, k, none⟩) hr v)

/-- What a draw of a box leaves. -/
def BoxOut (w : World) (g : Nat) (A : Option Addr) (n cap : Nat) (e : Ending) (w' : World) : Prop :=
  ∃ (b : BoxV) (i h : Int), e = .returned b.val ∧ Cur w' g A n cap i h ∧ w.grownBy w' (some g)

set_option maxHeartbeats 2000000 in
theorem l4Draw_any (w : World) (g : Nat) (A : Option Addr) (n cap : Nat) (i h : Int) (hn : n ≤ 4096) (c : Cur w g A n cap i h) :
    Calls Tryd.prog 58 #[.pointer (some ⟨g, 0, none⟩)] w (BoxOut w g A n cap) := by
  have C := Lib.hid c
  have hg := c.lt
  clear c
  go_enter Tryd.func58, Tryd.ntmps58
  go_wp2_with fail
  refine (l3Draw_any _ g A n cap i h hn (C.out.alloc _)).mono ?_
  rintro e w1 ⟨⟨ku, ks, kh, ka⟩, i1, h1, rfl, c1, b1⟩
  have R1 := Lib.hid (blk_kept b1 (heap1 w _) (by omega))
  have G1 := Lib.hid (only_trans (World.grownBy_alloc w _ (some g)) b1)
  have C1 := Lib.hid c1
  clear c1 b1 C
  unfold KeyV.val
  go_wp2_with fail
  refine (l1Below_any _ g A n cap i1 h1 4 hn (by omega) (by omega) C1.out).mono ?_
  rintro e w2 ⟨y, i2, h2, ⟨hy0, hy1⟩, rfl, c2, b2⟩
  have R2 := Lib.hid (blk_kept b2 R1.out (by omega))
  have G2 := Lib.hid (only_trans G1.out b2)
  have C2 := Lib.hid c2
  clear c2 b2 C1 R1 G1
  go_wp2_with fail
  refine (l1DrawText_any _ g A n cap i2 h2 hn C2.out).mono ?_
  rintro e w3 ⟨s, i3, h3, hs, rfl, c3, b3⟩
  have R3 := Lib.hid (blk_kept b3 R2.out (by omega))
  have G3 := Lib.hid (only_trans G2.out b3)
  have C3 := Lib.hid c3
  clear c3 b3 C2 R2 G2 hs
  go_wp2_with fail
  refine (l1Once_any _ g A n cap i3 h3 8 hn (by omega) (by omega) C3.out).mono ?_
  rintro e w4 ⟨b, i4, h4, rfl, c4, b4⟩
  have R4 := Lib.hid (blk_kept b4 R3.out (by omega))
  have G4 := Lib.hid (only_trans G3.out b4)
  have C4 := Lib.hid c4
  clear c4 b4 C3 R3 G3
  obtain ⟨⟨a0, a1, a2, a3, a4, a5, a6⟩, q0, q1, q2, q3, q4, q5, q6⟩ := blk7 R4.out
  go_wp2
  exact row_ret (cs := (BoxV.cells ⟨⟨ku, ks, kh, ka⟩, y, s, b⟩).toArray) rfl rfl (setAll_whole (vs := BoxV.cells ⟨⟨ku, ks, kh, ka⟩, y, s, b⟩) R4.out rfl) Tryd.underlying29 rfl (by kernel_rfl) rfl
    ⟨⟨⟨ku, ks, kh, ka⟩, y, s, b⟩, i4, h4, rfl, Cur.farAll hg (BoxV.cells ⟨⟨ku, ks, kh, ka⟩, y, s, b⟩) 0 C4.out, only_setAll (Nat.le_refl _) (BoxV.cells ⟨⟨ku, ks, kh, ka⟩, y, s, b⟩) 0 G4.out⟩

/-- A slice of n bytes 0 in new memory, and the string of it. -/
theorem made_byte (n j : Nat) (h : j < n) : (madeCells #[.int .u8 0] n)[j]? = some (.int .u8 0) := by
  simp [madeCells, h, Nat.mod_one]
theorem make_bytes (n : Nat) (hn : n ≤ 1000) (w : World) : (Instr.makeSlice 22 (.int .i64 (n : Int)) (.int .i64 (n : Int))).run Tryd.prog w = .ok (.slice (some ⟨w.heap.size, 0, none⟩) n n) (w.alloc (.cells (madeCells #[.int .u8 0] n) 5)) := by
  obtain ⟨i, hi⟩ := Option.isSome_iff_exists.1 (show (Tryd.prog.info? 5).isSome = true by kernel_rfl)
  have hz : i.zero = some (.int .u8 0) := by
    have h : (Tryd.prog.info? 5).bind (·.zero) = some (.int .u8 0) := by kernel_rfl
    rw [hi] at h; exact h
  have hs : i.size = 1 := by
    have h : (Tryd.prog.info? 5).map (·.size) = some 1 := by kernel_rfl
    rw [hi] at h; simpa using h
  have hb : i.bytes = 1 := by
    have h : (Tryd.prog.info? 5).map (·.bytes) = some 1 := by kernel_rfl
    rw [hi] at h; simpa using h
  have := run_make (P := Tryd.prog) w 22 5 i _ Tryd.underlying22 hi hz .i64 .i64 n n (by omega) (Int.le_refl _) (by rw [hb]; omega) (by omega)
  simpa [hs, Value.cells] using this
theorem conv_bytes (n : Nat) (w : World) : (convert 22 9 (.slice (some ⟨w.heap.size, 0, none⟩) n n)).run Tryd.prog (w.alloc (.cells (madeCells #[.int .u8 0] n) 5)) = .ok (.string (strOfNums (List.replicate n 0))) (w.alloc (.cells (madeCells #[.int .u8 0] n) 5)) :=
  run_convert_bytes_arg _ 22 5 Tryd.underlying22 Tryd.underlying5 w.heap.size 0 n n (List.replicate n 0) (by simp) (fun j hj => by
    rw [Nat.zero_add, blk_cell (heap1 w _), made_byte n j hj]
    simp [List.getD, hj]) 9 Tryd.underlying9

set_option maxHeartbeats 4000000 in
theorem l4DrawAny_any (w : World) (g : Nat) (A : Option Addr) (n cap : Nat) (i h : Int) (hn : n ≤ 4096) (c : Cur w g A n cap i h) :
    Calls Tryd.prog 47 #[.pointer (some ⟨g, 0, none⟩)] w (BoxOut w g A n cap) := by
  have C := Lib.hid c
  have hg := c.lt
  clear c
  go_enter Tryd.func47, Tryd.ntmps47
  go_wp2_with fail
  refine (l4Draw_any _ g A n cap i h hn (C.out.alloc _)).mono ?_
  rintro e w1 ⟨⟨⟨ku, ks, kh, ka⟩, y, s, sp⟩, i1, h1, rfl, c1, b1⟩
  have R1 := Lib.hid (blk_kept b1 (heap1 w _) (by omega))
  have G1 := Lib.hid (only_trans (World.grownBy_alloc w _ (some g)) b1)
  have hr1 := blk_in R1.out
  have CK := Lib.hid (c1.alloc (.cells #[.int .i64 ku, .int .i64 ks, .int .i64 kh, .int .i64 ka, .int .i64 y, .string s, .bool sp] 29))
  have GK := Lib.hid (only_alloc G1.out (.cells #[.int .i64 ku, .int .i64 ks, .int .i64 kh, .int .i64 ka, .int .i64 y, .string s, .bool sp] 29))
  have RK := Lib.hid (alloc_blk (o := .cells #[.int .i64 ku, .int .i64 ks, .int .i64 kh, .int .i64 ka, .int .i64 y, .string s, .bool sp] 29) R1.out)
  have KK := Lib.hid (heap1 w1 (.cells #[.int .i64 ku, .int .i64 ks, .int .i64 kh, .int .i64 ka, .int .i64 y, .string s, .bool sp] 29))
  clear c1 b1 C R1 G1
  have HV : Hid (BoxV.val ⟨⟨ku, ks, kh, ka⟩, y, s, sp⟩ = .agg #[.int .i64 ku, .int .i64 ks, .int .i64 kh, .int .i64 ka, .int .i64 y, .string s, .bool sp]) := rfl
  rw [HV.out]
  obtain ⟨wk, hwk⟩ : ∃ W, w1.alloc (.cells #[.int .i64 ku, .int .i64 ks, .int .i64 kh, .int .i64 ka, .int .i64 y, .string s, .bool sp] 29) = W := ⟨_, rfl⟩
  rw [hwk] at CK GK RK KK
  go_wp2_with fail
  clear hwk
  refine (l1Once_any _ g A n cap i1 h1 8 hn (by omega) (by omega) CK.out).mono ?_
  rintro e w2 ⟨o, i2, h2, rfl, c2, b2⟩
  have R2 := Lib.hid (blk_kept b2 RK.out (by omega))
  have K2 := Lib.hid (blk_kept b2 KK.out (by omega))
  have G2 := Lib.hid (only_trans GK.out b2)
  have C2 := Lib.hid c2
  clear c2 b2 CK GK RK KK
  cases o with
  | false =>
    obtain ⟨⟨a0, a1, a2, a3, a4, a5, a6⟩, q0, q1, q2, q3, q4, q5, q6⟩ := blk7 R2.out
    obtain ⟨⟨d0, d1, d2, d3, d4, d5, d6⟩, _⟩ := blk7 K2.out
    go_wp2
    exact row_ret (cs := (BoxV.cells ⟨⟨ku, ks, kh, ka⟩, y, s, sp⟩).toArray) rfl rfl (setAll_whole (vs := BoxV.cells ⟨⟨ku, ks, kh, ka⟩, y, s, sp⟩) R2.out rfl) Tryd.underlying29 rfl (by kernel_rfl) rfl
      ⟨⟨⟨ku, ks, kh, ka⟩, y, s, sp⟩, i2, h2, rfl, Cur.farAll hg (BoxV.cells ⟨⟨ku, ks, kh, ka⟩, y, s, sp⟩) 0 C2.out, only_setAll (Nat.le_refl _) (BoxV.cells ⟨⟨ku, ks, kh, ka⟩, y, s, sp⟩) 0 G2.out⟩
  | true =>
    go_wp2_with fail
    refine (l1Below_any _ g A n cap i2 h2 3 hn (by omega) (by omega) C2.out).mono ?_
    rintro e w3 ⟨x, i3, h3, ⟨hx0, hx1⟩, rfl, c3, b3⟩
    have R3 := Lib.hid (blk_kept b3 R2.out (by omega))
    have K3 := Lib.hid (blk_kept b3 K2.out (by omega))
    have G3 := Lib.hid (only_trans G2.out b3)
    have C3 := Lib.hid c3
    clear c3 b3 R2 K2 G2 C2
    have hx : x = 0 ∨ x = 1 ∨ x = 2 := by omega
    rcases hx with rfl | rfl | rfl
    · go_wp2_with fail
      refine (l3DrawAny_any _ g A n cap i3 h3 hn C3.out).mono ?_
      rintro e w4 ⟨⟨ju, js, jh, ja⟩, i4, h4, rfl, c4, b4⟩
      have R4 := Lib.hid (blk_kept b4 R3.out (by omega))
      have K4 := Lib.hid (blk_kept b4 K3.out (by omega))
      have G4 := Lib.hid (only_trans G3.out b4)
      have C4 := Lib.hid c4
      clear c4 b4 R3 K3 G3 C3
      obtain ⟨⟨a0, a1, a2, a3, a4, a5, a6⟩, q0, q1, q2, q3, q4, q5, q6⟩ := blk7 R4.out
      obtain ⟨⟨d0, d1, d2, d3, d4, d5, d6⟩, f0, f1, f2, f3, f4, f5, f6⟩ := blk7 K4.out
      unfold KeyV.val
      go_wp2
      exact row_ret (cs := (BoxV.cells ⟨⟨ju, js, jh, ja⟩, y, s, sp⟩).toArray) rfl rfl (setAll_whole (vs := BoxV.cells ⟨⟨ju, js, jh, ja⟩, y, s, sp⟩) (setAll_away (g := w1.heap.size) (by omega) [.int .i64 ju, .int .i64 js, .int .i64 jh, .int .i64 ja] 0 R4.out) rfl) Tryd.underlying29 rfl (by kernel_rfl) rfl
        ⟨⟨⟨ju, js, jh, ja⟩, y, s, sp⟩, i4, h4, rfl, Cur.farAll hg (BoxV.cells ⟨⟨ju, js, jh, ja⟩, y, s, sp⟩) 0 (Cur.farAll (r := w1.heap.size) (by omega) [.int .i64 ju, .int .i64 js, .int .i64 jh, .int .i64 ja] 0 C4.out), only_setAll (Nat.le_refl _) (BoxV.cells ⟨⟨ju, js, jh, ja⟩, y, s, sp⟩) 0 (only_setAll (r := w1.heap.size) (by omega) [.int .i64 ju, .int .i64 js, .int .i64 jh, .int .i64 ja] 0 G4.out)⟩
    · go_wp2_with fail
      refine (l1Below_any _ g A n cap i3 h3 3 hn (by omega) (by omega) (C3.out.alloc _)).mono ?_
      rintro e w4 ⟨v, i4, h4, ⟨hv0, hv1⟩, rfl, c4, b4⟩
      have L4 := Lib.hid (blk_kept b4 (heap1 w3 _) (by have := C3.out.lt; omega))
      have R4 := Lib.hid (blk_kept b4 (alloc_blk R3.out) (by omega))
      have K4 := Lib.hid (blk_kept b4 (alloc_blk K3.out) (by omega))
      have G4 := Lib.hid (only_trans (only_alloc G3.out _) b4)
      have C4 := Lib.hid c4
      clear c4 b4 R3 K3 G3 C3
      obtain ⟨m, rfl⟩ := Int.eq_ofNat_of_zero_le hv0
      obtain ⟨z, hz⟩ : ∃ z : Int, w4.cell? ⟨w3.heap.size, m, none⟩ = some (.int .i64 z) := by
        rw [blk_cell L4.out]
        have hm : m = 0 ∨ m = 1 ∨ m = 2 := by omega
        rcases hm with rfl | rfl | rfl <;> exact ⟨_, rfl⟩
      obtain ⟨⟨a0, a1, a2, a3, a4, a5, a6⟩, q0, q1, q2, q3, q4, q5, q6⟩ := blk7 R4.out
      obtain ⟨⟨d0, d1, d2, d3, d4, d5, d6⟩, f0, f1, f2, f3, f4, f5, f6⟩ := blk7 K4.out
      go_wp2
      exact row_ret (cs := (BoxV.cells ⟨⟨ku, ks, kh, ka⟩, z, s, sp⟩).toArray) rfl rfl (setAll_whole (vs := BoxV.cells ⟨⟨ku, ks, kh, ka⟩, z, s, sp⟩) (setAll_away (g := w1.heap.size) (by omega) [.int .i64 z] 4 R4.out) rfl) Tryd.underlying29 rfl (by kernel_rfl) rfl
        ⟨⟨⟨ku, ks, kh, ka⟩, z, s, sp⟩, i4, h4, rfl, Cur.farAll hg (BoxV.cells ⟨⟨ku, ks, kh, ka⟩, z, s, sp⟩) 0 (Cur.farAll (r := w1.heap.size) (by omega) [.int .i64 z] 4 C4.out), only_setAll (Nat.le_refl _) (BoxV.cells ⟨⟨ku, ks, kh, ka⟩, z, s, sp⟩) 0 (only_setAll (r := w1.heap.size) (by omega) [.int .i64 z] 4 G4.out)⟩
    · go_wp2_with fail
      refine (l1Below_any _ g A n cap i3 h3 2 hn (by omega) (by omega) C3.out).mono ?_
      rintro e w4 ⟨v, i4, h4, ⟨hv0, hv1⟩, rfl, c4, b4⟩
      have R4 := Lib.hid (blk_kept b4 R3.out (by omega))
      have K4 := Lib.hid (blk_kept b4 K3.out (by omega))
      have G4 := Lib.hid (only_trans G3.out b4)
      have C4 := Lib.hid c4
      have hk4 := blk_in K4.out
      clear c4 b4 R3 K3 G3 C3
      have hv : v = 0 ∨ v = 1 := by omega
      rcases hv with rfl | rfl
      · obtain ⟨W5, hW5⟩ : ∃ W, W = w4.alloc (.cells (madeCells #[.int .u8 0] 40) 5) := ⟨_, rfl⟩
        have mk : (Instr.makeSlice 22 (.int .i64 40) (.int .i64 40)).run Tryd.prog w4 = .ok (.slice (some ⟨w4.heap.size, 0, none⟩) 40 40) W5 := hW5 ▸ make_bytes 40 (by omega) w4
        have cv : (convert 22 9 (.slice (some ⟨w4.heap.size, 0, none⟩) 40 40)).run Tryd.prog W5 = .ok (.string (strOfNums (List.replicate 40 0))) W5 := hW5 ▸ conv_bytes 40 w4
        have R5 : Hid (W5.heap[w.heap.size]? = some _) := hW5 ▸ alloc_blk R4.out
        have K5 : Hid (W5.heap[w1.heap.size]? = some _) := hW5 ▸ alloc_blk K4.out
        have G5 : Hid (w.grownBy W5 (some g)) := hW5 ▸ only_alloc G4.out _
        have C5 : Hid (Cur W5 g A n cap i4 h4) := hW5 ▸ C4.out.alloc _
        clear hW5 R4 K4 G4 C4
        obtain ⟨⟨a0, a1, a2, a3, a4, a5, a6⟩, q0, q1, q2, q3, q4, q5, q6⟩ := blk7 R5.out
        obtain ⟨⟨d0, d1, d2, d3, d4, d5, d6⟩, f0, f1, f2, f3, f4, f5, f6⟩ := blk7 K5.out
        generalize strOfNums (List.replicate 40 0) = z at cv
        go_wp2
        exact row_ret (cs := (BoxV.cells ⟨⟨ku, ks, kh, ka⟩, y, z, sp⟩).toArray) rfl rfl (setAll_whole (vs := BoxV.cells ⟨⟨ku, ks, kh, ka⟩, y, z, sp⟩) (setAll_away (g := w1.heap.size) (by omega) [.string z] 5 R5.out) rfl) Tryd.underlying29 rfl (by kernel_rfl) rfl
          ⟨⟨⟨ku, ks, kh, ka⟩, y, z, sp⟩, i4, h4, rfl, Cur.farAll hg (BoxV.cells ⟨⟨ku, ks, kh, ka⟩, y, z, sp⟩) 0 (Cur.farAll (r := w1.heap.size) (by omega) [.string z] 5 C5.out), only_setAll (Nat.le_refl _) (BoxV.cells ⟨⟨ku, ks, kh, ka⟩, y, z, sp⟩) 0 (only_setAll (r := w1.heap.size) (by omega) [.string z] 5 G5.out)⟩
      · obtain ⟨W5, hW5⟩ : ∃ W, W = w4.alloc (.cells (madeCells #[.int .u8 0] 41) 5) := ⟨_, rfl⟩
        have mk : (Instr.makeSlice 22 (.int .i64 41) (.int .i64 41)).run Tryd.prog w4 = .ok (.slice (some ⟨w4.heap.size, 0, none⟩) 41 41) W5 := hW5 ▸ make_bytes 41 (by omega) w4
        have cv : (convert 22 9 (.slice (some ⟨w4.heap.size, 0, none⟩) 41 41)).run Tryd.prog W5 = .ok (.string (strOfNums (List.replicate 41 0))) W5 := hW5 ▸ conv_bytes 41 w4
        have R5 : Hid (W5.heap[w.heap.size]? = some _) := hW5 ▸ alloc_blk R4.out
        have K5 : Hid (W5.heap[w1.heap.size]? = some _) := hW5 ▸ alloc_blk K4.out
        have G5 : Hid (w.grownBy W5 (some g)) := hW5 ▸ only_alloc G4.out _
        have C5 : Hid (Cur W5 g A n cap i4 h4) := hW5 ▸ C4.out.alloc _
        clear hW5 R4 K4 G4 C4
        obtain ⟨⟨a0, a1, a2, a3, a4, a5, a6⟩, q0, q1, q2, q3, q4, q5, q6⟩ := blk7 R5.out
        obtain ⟨⟨d0, d1, d2, d3, d4, d5, d6⟩, f0, f1, f2, f3, f4, f5, f6⟩ := blk7 K5.out
        generalize strOfNums (List.replicate 41 0) = z at cv
        go_wp2
        exact row_ret (cs := (BoxV.cells ⟨⟨ku, ks, kh, ka⟩, y, z, sp⟩).toArray) rfl rfl (setAll_whole (vs := BoxV.cells ⟨⟨ku, ks, kh, ka⟩, y, z, sp⟩) (setAll_away (g := w1.heap.size) (by omega) [.string z] 5 R5.out) rfl) Tryd.underlying29 rfl (by kernel_rfl) rfl
          ⟨⟨⟨ku, ks, kh, ka⟩, y, z, sp⟩, i4, h4, rfl, Cur.farAll hg (BoxV.cells ⟨⟨ku, ks, kh, ka⟩, y, z, sp⟩) 0 (Cur.farAll (r := w1.heap.size) (by omega) [.string z] 5 C5.out), only_setAll (Nat.le_refl _) (BoxV.cells ⟨⟨ku, ks, kh, ka⟩, y, z, sp⟩) 0 (only_setAll (r := w1.heap.size) (by omega) [.string z] 5 G5.out)⟩



end Go.Proofs.YtdnkpdfhnpmhbaaDoor.Tx

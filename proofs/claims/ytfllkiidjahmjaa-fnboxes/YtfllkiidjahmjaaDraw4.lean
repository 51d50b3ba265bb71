/-
  What the model draws for chapter 4: a box, a key, a number. Condition: the draw's code has at most 4096 bytes.
-/
import Derived.Laws.MakeOwn
import Derived.Laws.BytesArg
import Derived.Deep.RegionHeld3
import Derived.Test.YtfllkiidjahmjaaDraw1t
import Derived.Test.YtfllkiidjahmjaaDraw3
import Derived.Test.YtfllkiidjahmjaaBox
namespace Go.Proofs.Ytfllkiidjahmjaa.Tx
open Go.RowKit

theorem only_setAll {a : World} {g r : Nat} (hr : a.heap.size ≤ r) : ∀ (vs : List Value) (k : Nat) {w : World}, a.grownBy w (some g) → a.grownBy (setAll w r k vs) (some g)
  | [], _, _, h => h
  | v :: rest, k, _, h => only_setAll hr rest (k + 1) (only_setNew h (p := ⟨r, k, none⟩) hr v)
theorem Cur.farAll {g r : Nat} {A : Option Addr} {n cap : Nat} {i h : Int} (hr : g < r) : ∀ (vs : List Value) (k : Nat) {w : World}, Cur w g A n cap i h → Cur (setAll w r k vs) g A n cap i h
  | [], _, _, c => c
  | v :: rest, k, _, c => Cur.farAll hr rest (k + 1) (c.farSet (p := ⟨r, k, none⟩) hr v)

/-- What a draw of a box leaves. -/
def BoxOut (w : World) (g : Nat) (A : Option Addr) (n cap : Nat) (e : Ending) (w' : World) : Prop :=
  ∃ (b : BoxV) (i h : Int), e = .returned b.val ∧ Cur w' g A n cap i h ∧ w.grownBy w' (some g)

set_option maxHeartbeats 2000000 in
theorem l4Draw_any (w : World) (g : Nat) (A : Option Addr) (n cap : Nat) (i h : Int) (hn : n ≤ 4096) (c : Cur w g A n cap i h) :
    Calls Try.prog 32 #[.pointer (some ⟨g, 0, none⟩)] w (BoxOut w g A n cap) := by
  have C := Lib.hid c
  have hg := c.lt
  clear c
  go_enter Try.func32, Try.ntmps32
  go_wp2_with fail
  refine (l3Draw_any _ g A n cap i h hn (C.out.alloc _)).mono ?_
  rintro e w1 ⟨⟨ku, ks, kh, ka⟩, i1, h1, rfl, c1, b1⟩
  have R1 := Lib.hid (blk_kept b1 (heap1 w _) (by omega))
  have G1 := Lib.hid (only_trans (World.grownBy_alloc w _ (some g)) b1)
  have C1 := Lib.hid c1
  clear c1 b1 C
  unfold KeyV.val
  go_wp2_with fail
  refine (l1Below_any _ g A n cap i1 h1 4 hn (by omega) (by omega) C1.out).mono ?_
  rintro e w2 ⟨y, i2, h2, ⟨hy0, hy1⟩, rfl, c2, b2⟩
  have R2 := Lib.hid (blk_kept b2 R1.out (by omega))
  have G2 := Lib.hid (only_trans G1.out b2)
  have C2 := Lib.hid c2
  clear c2 b2 C1 R1 G1
  go_wp2_with fail
  refine (l1DrawText_any _ g A n cap i2 h2 hn C2.out).mono ?_
  rintro e w3 ⟨s, i3, h3, hs, rfl, c3, b3⟩
  have R3 := Lib.hid (blk_kept b3 R2.out (by omega))
  have G3 := Lib.hid (only_trans G2.out b3)
  have C3 := Lib.hid c3
  clear c3 b3 C2 R2 G2 hs
  go_wp2_with fail
  refine (l1Once_any _ g A n cap i3 h3 8 hn (by omega) (by omega) C3.out).mono ?_
  rintro e w4 ⟨b, i4, h4, rfl, c4, b4⟩
  have R4 := Lib.hid (blk_kept b4 R3.out (by omega))
  have G4 := Lib.hid (only_trans G3.out b4)
  have C4 := Lib.hid c4
  clear c4 b4 C3 R3 G3
  obtain ⟨⟨a0, a1, a2, a3, a4, a5, a6⟩, q0, q1, q2, q3, q4, q5, q6⟩ := blk7 R4.out
  go_wp2
  exact row_ret (cs := (BoxV.cells ⟨⟨ku, ks, kh, ka⟩, y, s, b⟩).toArray) rfl rfl (setAll_whole (vs := BoxV.cells ⟨⟨ku, ks, kh, ka⟩, y, s, b⟩) R4.out rfl) Try.underlying29 rfl (by kernel_rfl) rfl
    ⟨⟨⟨ku, ks, kh, ka⟩, y, s, b⟩, i4, h4, rfl, Cur.farAll hg (BoxV.cells ⟨⟨ku, ks, kh, ka⟩, y, s, b⟩) 0 C4.out, only_setAll (Nat.le_refl _) (BoxV.cells ⟨⟨ku, ks, kh, ka⟩, y, s, b⟩) 0 G4.out⟩

/-- A slice of n bytes 0 in new memory, and the string of it. -/
theorem made_byte (n j : Nat) (h : j < n) : (madeCells #[.int .u8 0] n)[j]? = some (.int .u8 0) := by
  simp [madeCells, h, Nat.mod_one]
theorem make_bytes (n : Nat) (hn : n ≤ 1000) (w : World) : (Instr.makeSlice 22 (.int .i64 (n : Int)) (.int .i64 (n : Int))).run Try.prog w = .ok (.slice (some ⟨w.heap.size, 0, none⟩) n n) (w.alloc (.cells (madeCells #[.int .u8 0] n) 5)) := by
  obtain ⟨i, hi⟩ := Option.isSome_iff_exists.1 (show (Try.prog.info? 5).isSome = true by kernel_rfl)
  have hz : i.zero = some (.int .u8 0) := by
    have h : (Try.prog.info? 5).bind (·.zero) = some (.int .u8 0) := by kernel_rfl
    rw [hi] at h; exact h
  have hs : i.size = 1 := by
    have h : (Try.prog.info? 5).map (·.size) = some 1 := by kernel_rfl
    rw [hi] at h; simpa using h
  have hb : i.bytes = 1 := by
    have h : (Try.prog.info? 5).map (·.bytes) = some 1 := by kernel_rfl
    rw [hi] at h; simpa using h
  have := run_make (P := Try.prog) w 22 5 i _ Try.underlying22 hi hz .i64 .i64 n n (by omega) (Int.le_refl _) (by rw [hb]; omega) (by omega)
  simpa [hs, Value.cells] using this
theorem conv_bytes (n : Nat) (w : World) : (convert 22 9 (.slice (some ⟨w.heap.size, 0, none⟩) n n)).run Try.prog (w.alloc (.cells (madeCells #[.int .u8 0] n) 5)) = .ok (.string (strOfNums (List.replicate n 0))) (w.alloc (.cells (madeCells #[.int .u8 0] n) 5)) :=
  run_convert_bytes_arg _ 22 5 Try.underlying22 Try.underlying5 w.heap.size 0 n n (List.replicate n 0) (by simp) (fun j hj => by
    rw [Nat.zero_add, blk_cell (heap1 w _), made_byte n j hj]
    simp [List.getD, hj]) 9 Try.underlying9

set_option maxHeartbeats 4000000 in
theorem l4DrawAny_any (w : World) (g : Nat) (A : Option Addr) (n cap : Nat) (i h : Int) (hn : n ≤ 4096) (c : Cur w g A n cap i h) :
    Calls Try.prog 24 #[.pointer (some ⟨g, 0, none⟩)] w (BoxOut w g A n cap) := by
  have C := Lib.hid c
  have hg := c.lt
  clear c
  go_enter Try.func24, Try.ntmps24
  go_wp2_with fail
  refine (l4Draw_any _ g A n cap i h hn (C.out.alloc _)).mono ?_
  rintro e w1 ⟨⟨⟨ku, ks, kh, ka⟩, y, s, sp⟩, i1, h1, rfl, c1, b1⟩
  have R1 := Lib.hid (blk_kept b1 (heap1 w _) (by omega))
  have G1 := Lib.hid (only_trans (World.grownBy_alloc w _ (some g)) b1)
  have hr1 := blk_in R1.out
  have CK := Lib.hid (c1.alloc (.cells #[.int .i64 ku, .int .i64 ks, .int .i64 kh, .int .i64 ka, .int .i64 y, .string s, .bool sp] 29))
  have GK := Lib.hid (only_alloc G1.out (.cells #[.int .i64 ku, .int .i64 ks, .int .i64 kh, .int .i64 ka, .int .i64 y, .string s, .bool sp] 29))
  have RK := Lib.hid (alloc_blk (o := .cells #[.int .i64 ku, .int .i64 ks, .int .i64 kh, .int .i64 ka, .int .i64 y, .string s, .bool sp] 29) R1.out)
  have KK := Lib.hid (heap1 w1 (.cells #[.int .i64 ku, .int .i64 ks, .int .i64 kh, .int .i64 ka, .int .i64 y, .string s, .bool sp] 29))
  clear c1 b1 C R1 G1
  have HV : Hid (BoxV.val ⟨⟨ku, ks, kh, ka⟩, y, s, sp⟩ = .agg #[.int .i64 ku, .int .i64 ks, .int .i64 kh, .int .i64 ka, .int .i64 y, .string s, .bool sp]) := rfl
  rw [HV.out]
  obtain ⟨wk, hwk⟩ : ∃ W, w1.alloc (.cells #[.int .i64 ku, .int .i64 ks, .int .i64 kh, .int .i64 ka, .int .i64 y, .string s, .bool sp] 29) = W := ⟨_, rfl⟩
  rw [hwk] at CK GK RK KK
  go_wp2_with fail
  clear hwk
  refine (l1Once_any _ g A n cap i1 h1 8 hn (by omega) (by omega) CK.out).mono ?_
  rintro e w2 ⟨o, i2, h2, rfl, c2, b2⟩
  have R2 := Lib.hid (blk_kept b2 RK.out (by omega))
  have K2 := Lib.hid (blk_kept b2 KK.out (by omega))
  have G2 := Lib.hid (only_trans GK.out b2)
  have C2 := Lib.hid c2
  clear c2 b2 CK GK RK KK
  cases o with
  | false =>
    obtain ⟨⟨a0, a1, a2, a3, a4, a5, a6⟩, q0, q1, q2, q3, q4, q5, q6⟩ := blk7 R2.out
    obtain ⟨⟨d0, d1, d2, d3, d4, d5, d6⟩, _⟩ := blk7 K2.out
    go_wp2
    exact row_ret (cs := (BoxV.cells ⟨⟨ku, ks, kh, ka⟩, y, s, sp⟩).toArray) rfl rfl (setAll_whole (vs := BoxV.cells ⟨⟨ku, ks, kh, ka⟩, y, s, sp⟩) R2.out rfl) Try.underlying29 rfl (by kernel_rfl) rfl
      ⟨⟨⟨ku, ks, kh, ka⟩, y, s, sp⟩, i2, h2, rfl, Cur.farAll hg (BoxV.cells ⟨⟨ku, ks, kh, ka⟩, y, s, sp⟩) 0 C2.out, only_setAll (Nat.le_refl _) (BoxV.cells ⟨⟨ku, ks, kh, ka⟩, y, s, sp⟩) 0 G2.out⟩
  | true =>
    go_wp2_with fail
    refine (l1Below_any _ g A n cap i2 h2 3 hn (by omega) (by omega) C2.out).mono ?_
    rintro e w3 ⟨x, i3, h3, ⟨hx0, hx1⟩, rfl, c3, b3⟩
    have R3 := Lib.hid (blk_kept b3 R2.out (by omega))
    have K3 := Lib.hid (blk_kept b3 K2.out (by omega))
    have G3 := Lib.hid (only_trans G2.out b3)
    have C3 := Lib.hid c3
    clear c3 b3 R2 K2 G2 C2
    have hx : x = 0 ∨ x = 1 ∨ x = 2 := by omega
    rcases hx with rfl | rfl | rfl
    · go_wp2_with fail
      refine (l3DrawAny_any _ g A n cap i3 h3 hn C3.out).mono ?_
      rintro e w4 ⟨⟨ju, js, jh, ja⟩, i4, h4, rfl, c4, b4⟩
      have R4 := Lib.hid (blk_kept b4 R3.out (by omega))
      have K4 := Lib.hid (blk_kept b4 K3.out (by omega))
      have G4 := Lib.hid (only_trans G3.out b4)
      have C4 := Lib.hid c4
      clear c4 b4 R3 K3 G3 C3
      obtain ⟨⟨a0, a1, a2, a3, a4, a5, a6⟩, q0, q1, q2, q3, q4, q5, q6⟩ := blk7 R4.out
      obtain ⟨⟨d0, d1, d2, d3, d4, d5, d6⟩, f0, f1, f2, f3, f4, f5, f6⟩ := blk7 K4.out
      unfold KeyV.val
      go_wp2
      exact row_ret (cs := (BoxV.cells ⟨⟨ju, js, jh, ja⟩, y, s, sp⟩).toArray) rfl rfl (setAll_whole (vs := BoxV.cells ⟨⟨ju, js, jh, ja⟩, y, s, sp⟩) (setAll_away (g := w1.heap.size) (by omega) [.int .i64 ju, .int .i64 js, .int .i64 jh, .int .i64 ja] 0 R4.out) rfl) Try.underlying29 rfl (by kernel_rfl) rfl
        ⟨⟨⟨ju, js, jh, ja⟩, y, s, sp⟩, i4, h4, rfl, Cur.farAll hg (BoxV.cells ⟨⟨ju, js, jh, ja⟩, y, s, sp⟩) 0 (Cur.farAll (r := w1.heap.size) (by omega) [.int .i64 ju, .int .i64 js, .int .i64 jh, .int .i64 ja] 0 C4.out), only_setAll (Nat.le_refl _) (BoxV.cells ⟨⟨ju, js, jh, ja⟩, y, s, sp⟩) 0 (only_setAll (r := w1.heap.size) (by omega) [.int .i64 ju, .int .i64 js, .int .i64 jh, .int .i64 ja] 0 G4.out)⟩
    · go_wp2_with fail
      refine (l1Below_any _ g A n cap i3 h3 3 hn (by omega) (by omega) (C3.out.alloc _)).mono ?_
      rintro e w4 ⟨v, i4, h4, ⟨hv0, hv1⟩, rfl, c4, b4⟩
      have L4 := Lib.hid (blk_kept b4 (heap1 w3 _) (by have := C3.out.lt; omega))
      have R4 := Lib.hid (blk_kept b4 (alloc_blk R3.out) (by omega))
      have K4 := Lib.hid (blk_kept b4 (alloc_blk K3.out) (by omega))
      have G4 := Lib.hid (only_trans (only_alloc G3.out _) b4)
      have C4 := Lib.hid c4
      clear c4 b4 R3 K3 G3 C3
      obtain ⟨m, rfl⟩ := Int.eq_ofNat_of_zero_le hv0
      obtain ⟨z, hz⟩ : ∃ z : Int, w4.cell? ⟨w3.heap.size, m, none⟩ = some (.int .i64 z) := by
        rw [blk_cell L4.out]
        have hm : m = 0 ∨ m = 1 ∨ m = 2 := by omega
        rcases hm with rfl | rfl | rfl <;> exact ⟨_, rfl⟩
      obtain ⟨⟨a0, a1, a2, a3, a4, a5, a6⟩, q0, q1, q2, q3, q4, q5, q6⟩ := blk7 R4.out
      obtain ⟨⟨d0, d1, d2, d3, d4, d5, d6⟩, f0, f1, f2, f3, f4, f5, f6⟩ := blk7 K4.out
      go_wp2
      exact row_ret (cs := (BoxV.cells ⟨⟨ku, ks, kh, ka⟩, z, s, sp⟩).toArray) rfl rfl (setAll_whole (vs := BoxV.cells ⟨⟨ku, ks, kh, ka⟩, z, s, sp⟩) (setAll_away (g := w1.heap.size) (by omega) [.int .i64 z] 4 R4.out) rfl) Try.underlying29 rfl (by kernel_rfl) rfl
        ⟨⟨⟨ku, ks, kh, ka⟩, z, s, sp⟩, i4, h4, rfl, Cur.farAll hg (BoxV.cells ⟨⟨ku, ks, kh, ka⟩, z, s, sp⟩) 0 (Cur.farAll (r := w1.heap.size) (by omega) [.int .i64 z] 4 C4.out), only_setAll (Nat.le_refl _) (BoxV.cells ⟨⟨ku, ks, kh, ka⟩, z, s, sp⟩) 0 (only_setAll (r := w1.heap.size) (by omega) [.int .i64 z] 4 G4.out)⟩
    · go_wp2_with fail
      refine (l1Below_any _ g A n cap i3 h3 2 hn (by omega) (by omega) C3.out).mono ?_
      rintro e w4 ⟨v, i4, h4, ⟨hv0, hv1⟩, rfl, c4, b4⟩
      have R4 := Lib.hid (blk_kept b4 R3.out (by omega))
      have K4 := Lib.hid (blk_kept b4 K3.out (by omega))
      have G4 := Lib.hid (only_trans G3.out b4)
      have C4 := Lib.hid c4
      have hk4 := blk_in K4.out
      clear c4 b4 R3 K3 G3 C3
      have hv : v = 0 ∨ v = 1 := by omega
      rcases hv with rfl | rfl
      · obtain ⟨W5, hW5⟩ : ∃ W, W = w4.alloc (.cells (madeCells #[.int .u8 0] 40) 5) := ⟨_, rfl⟩
        have mk : (Instr.makeSlice 22 (.int .i64 40) (.int .i64 40)).run Try.prog w4 = .ok (.slice (some ⟨w4.heap.size, 0, none⟩) 40 40) W5 := hW5 ▸ make_bytes 40 (by omega) w4
        have cv : (convert 22 9 (.slice (some ⟨w4.heap.size, 0, none⟩) 40 40)).run Try.prog W5 = .ok (.string (strOfNums (List.replicate 40 0))) W5 := hW5 ▸ conv_bytes 40 w4
        have R5 : Hid (W5.heap[w.heap.size]? = some _) := hW5 ▸ alloc_blk R4.out
        have K5 : Hid (W5.heap[w1.heap.size]? = some _) := hW5 ▸ alloc_blk K4.out
        have G5 : Hid (w.grownBy W5 (some g)) := hW5 ▸ only_alloc G4.out _
        have C5 : Hid (Cur W5 g A n cap i4 h4) := hW5 ▸ C4.out.alloc _
        clear hW5 R4 K4 G4 C4
        obtain ⟨⟨a0, a1, a2, a3, a4, a5, a6⟩, q0, q1, q2, q3, q4, q5, q6⟩ := blk7 R5.out
        obtain ⟨⟨d0, d1, d2, d3, d4, d5, d6⟩, f0, f1, f2, f3, f4, f5, f6⟩ := blk7 K5.out
        generalize strOfNums (List.replicate 40 0) = z at cv
        go_wp2
        exact row_ret (cs := (BoxV.cells ⟨⟨ku, ks, kh, ka⟩, y, z, sp⟩).toArray) rfl rfl (setAll_whole (vs := BoxV.cells ⟨⟨ku, ks, kh, ka⟩, y, z, sp⟩) (setAll_away (g := w1.heap.size) (by omega) [.string z] 5 R5.out) rfl) Try.underlying29 rfl (by kernel_rfl) rfl
          ⟨⟨⟨ku, ks, kh, ka⟩, y, z, sp⟩, i4, h4, rfl, Cur.farAll hg (BoxV.cells ⟨⟨ku, ks, kh, ka⟩, y, z, sp⟩) 0 (Cur.farAll (r := w1.heap.size) (by omega) [.string z] 5 C5.out), only_setAll (Nat.le_refl _) (BoxV.cells ⟨⟨ku, ks, kh, ka⟩, y, z, sp⟩) 0 (only_setAll (r := w1.heap.size) (by omega) [.string z] 5 G5.out)⟩
      · obtain ⟨W5, hW5⟩ : ∃ W, W = w4.alloc (.cells (madeCells #[.int .u8 0] 41) 5) := ⟨_, rfl⟩
        have mk : (Instr.makeSlice 22 (.int .i64 41) (.int .i64 41)).run Try.prog w4 = .ok (.slice (some ⟨w4.heap.size, 0, none⟩) 41 41) W5 := hW5 ▸ make_bytes 41 (by omega) w4
        have cv : (convert 22 9 (.slice (some ⟨w4.heap.size, 0, none⟩) 41 41)).run Try.prog W5 = .ok (.string (strOfNums (List.replicate 41 0))) W5 := hW5 ▸ conv_bytes 41 w4
        have R5 : Hid (W5.heap[w.heap.size]? = some _) := hW5 ▸ alloc_blk R4.out
        have K5 : Hid (W5.heap[w1.heap.size]? = some _) := hW5 ▸ alloc_blk K4.out
        have G5 : Hid (w.grownBy W5 (some g)) := hW5 ▸ only_alloc G4.out _
        have C5 : Hid (Cur W5 g A n cap i4 h4) := hW5 ▸ C4.out.alloc _
        clear hW5 R4 K4 G4 C4
        obtain ⟨⟨a0, a1, a2, a3, a4, a5, a6⟩, q0, q1, q2, q3, q4, q5, q6⟩ := blk7 R5.out
        obtain ⟨⟨d0, d1, d2, d3, d4, d5, d6⟩, f0, f1, f2, f3, f4, f5, f6⟩ := blk7 K5.out
        generalize strOfNums (List.replicate 41 0) = z at cv
        go_wp2
        exact row_ret (cs := (BoxV.cells ⟨⟨ku, ks, kh, ka⟩, y, z, sp⟩).toArray) rfl rfl (setAll_whole (vs := BoxV.cells ⟨⟨ku, ks, kh, ka⟩, y, z, sp⟩) (setAll_away (g := w1.heap.size) (by omega) [.string z] 5 R5.out) rfl) Try.underlying29 rfl (by kernel_rfl) rfl
          ⟨⟨⟨ku, ks, kh, ka⟩, y, z, sp⟩, i4, h4, rfl, Cur.farAll hg (BoxV.cells ⟨⟨ku, ks, kh, ka⟩, y, z, sp⟩) 0 (Cur.farAll (r := w1.heap.size) (by omega) [.string z] 5 C5.out), only_setAll (Nat.le_refl _) (BoxV.cells ⟨⟨ku, ks, kh, ka⟩, y, z, sp⟩) 0 (only_setAll (r := w1.heap.size) (by omega) [.string z] 5 G5.out)⟩

/-- What DrawLocked leaves. -/
def LockedOut (w : World) (e : Ending) (w' : World) : Prop := ∃ (k : KeyV) (no : Int) (t : ByteArray), e = .returned (.tuple #[k.val, .int .i64 no, .string t]) ∧ Below w.heap.size w w'

theorem bytes_new {w : World} {A : Option Addr} {n : Nat} (h : BytesAt w w.heap.size A n) (o : Obj) : BytesAt (w.alloc o) (w.alloc o).heap.size A n := h.kept ((Below.refl _ w).alloc (Nat.le_refl _) o)

set_option maxHeartbeats 2000000 in
theorem DrawLocked_any (w : World) (A : Option Addr) (n cap : Nat) (hn : n ≤ 4096) (hb : BytesAt w w.heap.size A n) :
    Calls Try.prog 9 #[.slice A n cap] w (LockedOut w) := by
  have HB := Lib.hid hb
  clear hb
  go_enter Try.func9, Try.ntmps9
  go_wp2_with fail
  refine (l1New_any _ A n cap hn (bytes_new HB.out _)).mono ?_
  rintro e w0 ⟨rfl, h0, c0, b0⟩
  have R0 := Lib.hid ((b0.block w.heap.size (by simp)).trans (heap1 w _))
  have B0 := Lib.hid (below_new1 b0)
  simp only [World.size_alloc] at c0
  have C0 := Lib.hid c0
  have hl0 := c0.lt
  clear c0 b0
  go_wp2_with fail
  refine (l4DrawAny_any _ (w.heap.size + 1) A n cap 0 h0 hn C0.out).mono ?_
  rintro e w1 ⟨⟨⟨ku, ks, kh, ka⟩, y, s, sp⟩, i1, h1, rfl, c1, b1⟩
  have HV : Hid (BoxV.val ⟨⟨ku, ks, kh, ka⟩, y, s, sp⟩ = .agg #[.int .i64 ku, .int .i64 ks, .int .i64 kh, .int .i64 ka, .int .i64 y, .string s, .bool sp]) := rfl
  rw [HV.out]
  have R1 := Lib.hid (blk_kept b1 R0.out (by omega))
  have B1 := Lib.hid (B0.out.trans (below_of_only b1 (by omega) hl0))
  clear c1 b1
  obtain ⟨W1, hW1⟩ : ∃ W, w1.alloc (.cells #[.int .i64 ku, .int .i64 ks, .int .i64 kh, .int .i64 ka, .int .i64 y, .string s, .bool sp] 29) = W := ⟨_, rfl⟩
  have R2 : Hid (W1.heap[w.heap.size]? = some _) := hW1 ▸ alloc_blk R1.out
  have K2 : Hid (W1.heap[w1.heap.size]? = some (.cells #[.int .i64 ku, .int .i64 ks, .int .i64 kh, .int .i64 ka, .int .i64 y, .string s, .bool sp] 29)) := hW1 ▸ heap1 w1 _
  have B2 : Hid (Below w.heap.size w W1) := hW1 ▸ B1.out.alloc B1.out.size _
  obtain ⟨⟨a0, a1, a2, a3⟩, q0, q1, q2, q3⟩ := blk4 R2.out
  obtain ⟨⟨d0, d1, d2, d3, d4, d5, d6⟩, _⟩ := blk7 K2.out
  have hr1 := blk_in R1.out
  clear R1 B1 B0 R0
  go_wp2
  clear hW1
  have hne : ¬ w1.heap.size = w.heap.size := by omega
  have hne' : ¬ w.heap.size = w1.heap.size := by omega
  go_region_held3 (fun w' => w'.cell? ⟨w1.heap.size, 0, none⟩ = some (.int .i64 ku) ∧ w'.cell? ⟨w1.heap.size, 1, none⟩ = some (.int .i64 ks) ∧ w'.cell? ⟨w1.heap.size, 2, none⟩ = some (.int .i64 kh) ∧ w'.cell? ⟨w1.heap.size, 3, none⟩ = some (.int .i64 ka) ∧ w'.cell? ⟨w1.heap.size, 4, none⟩ = some (.int .i64 y) ∧ w'.cell? ⟨w1.heap.size, 5, none⟩ = some (.string s)) (go_keep) (fail)
  go_wp2
  exact row_ret3 (cs := #[.int .i64 ku, .int .i64 ks, .int .i64 kh, .int .i64 ka]) rfl rfl rfl rfl (setAll_whole (w := W1) (vs := [.int .i64 ku, .int .i64 ks, .int .i64 kh, .int .i64 ka]) R2.out rfl) Try.underlying25 rfl (by kernel_rfl) rfl
    ⟨⟨ku, ks, kh, ka⟩, y, s, rfl, drewN_below (setAll_below (Nat.le_refl _) [.int .i64 ku, .int .i64 ks, .int .i64 kh, .int .i64 ka] 0 B2.out) 1⟩

/-- What DrawOpened leaves. -/
def OpenedOut (w : World) (e : Ending) (w' : World) : Prop := ∃ (b : BoxV) (k : KeyV) (no : Int), e = .returned (.tuple #[b.val, k.val, .int .i64 no]) ∧ Below w.heap.size w w'

set_option maxHeartbeats 4000000 in
theorem DrawOpened_any (w : World) (A : Option Addr) (n cap : Nat) (hn : n ≤ 4096) (hb : BytesAt w w.heap.size A n) :
    Calls Try.prog 11 #[.slice A n cap] w (OpenedOut w) := by
  have HB := Lib.hid hb
  clear hb
  go_enter Try.func11, Try.ntmps11
  go_wp2_with fail
  refine (l1New_any _ A n cap hn (bytes_new (bytes_new HB.out _) _)).mono ?_
  rintro e w0 ⟨rfl, h0, c0, b0⟩
  have R0 := Lib.hid (blk_on b0 (heap2a w _ _))
  have Q0 := Lib.hid (blk_on b0 (heap2b w _ _))
  have B0 := Lib.hid (below_new2 b0)
  simp only [World.size_alloc] at c0
  have C0 := Lib.hid c0
  have hl0 := c0.lt
  clear c0 b0
  go_wp2_with fail
  refine (l4DrawAny_any _ (w.heap.size + 1 + 1) A n cap 0 h0 hn C0.out).mono ?_
  rintro e w1 ⟨⟨⟨ku, ks, kh, ka⟩, y, s, sp⟩, i1, h1, rfl, c1, b1⟩
  have HV : Hid (BoxV.val ⟨⟨ku, ks, kh, ka⟩, y, s, sp⟩ = .agg #[.int .i64 ku, .int .i64 ks, .int .i64 kh, .int .i64 ka, .int .i64 y, .string s, .bool sp]) := rfl
  rw [HV.out]
  have R1 := Lib.hid (blk_kept b1 R0.out (by omega))
  have Q1 := Lib.hid (blk_kept b1 Q0.out (by omega))
  have B1 := Lib.hid (B0.out.trans (below_of_only b1 (by omega) hl0))
  have C1 := Lib.hid c1
  have hl1 := c1.lt
  clear c1 b1 B0 R0 Q0 C0
  obtain ⟨W, hW⟩ : ∃ W, (w1.alloc (.cells #[.int .i64 ku, .int .i64 ks, .int .i64 kh, .int .i64 ka, .int .i64 y, .string s, .bool sp] 29)).alloc (.cells #[.int .i64 ku, .int .i64 ks, .int .i64 kh, .int .i64 ka] 25) = W := ⟨_, rfl⟩
  have R2 : Hid (W.heap[w.heap.size]? = some _) := hW ▸ alloc_blk (alloc_blk R1.out)
  have Q2 : Hid (W.heap[w.heap.size + 1]? = some _) := hW ▸ alloc_blk (alloc_blk Q1.out)
  have B2 : Hid (W.heap[w1.heap.size]? = some (.cells #[.int .i64 ku, .int .i64 ks, .int .i64 kh, .int .i64 ka, .int .i64 y, .string s, .bool sp] 29)) := hW ▸ heap2a w1 _ _
  have K2 : Hid (W.heap[w1.heap.size + 1]? = some (.cells #[.int .i64 ku, .int .i64 ks, .int .i64 kh, .int .i64 ka] 25)) := hW ▸ heap2b w1 _ _
  have L2 : Hid (Below w.heap.size w W) := hW ▸ (B1.out.alloc B1.out.size _).alloc (by have := B1.out.size; simp; omega) _
  have C2 : Hid (Cur W (w.heap.size + 1 + 1) A n cap i1 h1) := hW ▸ (C1.out.alloc _).alloc _
  clear R1 Q1 B1 C1
  have d4 := (blk7 B2.out).1.2.2.2.2.1
  go_wp2_with fail
  clear hW d4
  refine (l1Once_any _ (w.heap.size + 1 + 1) A n cap i1 h1 4 hn (by omega) (by omega) C2.out).mono ?_
  rintro e w3 ⟨o1, i3, h3, rfl, c3, b3⟩
  have R3 := Lib.hid (blk_kept b3 R2.out (by omega))
  have Q3 := Lib.hid (blk_kept b3 Q2.out (by omega))
  have B3 := Lib.hid (blk_kept b3 B2.out (by omega))
  have K3 := Lib.hid (blk_kept b3 K2.out (by omega))
  have L3 := Lib.hid (L2.out.trans (below_of_only b3 (by omega) C2.out.lt))
  have C3 := Lib.hid c3
  clear c3 b3 R2 Q2 B2 K2 L2 C2
  have n1 : ¬ w1.heap.size = w.heap.size := by omega
  have n2 : ¬ w1.heap.size = w.heap.size + 1 := by omega
  have n3 : ¬ w1.heap.size + 1 = w.heap.size := by omega
  have n4 : ¬ w.heap.size = w1.heap.size := by omega
  have n5 : ¬ w.heap.size + 1 = w1.heap.size := by omega
  have n6 : ¬ w.heap.size = w1.heap.size + 1 := by omega
  cases o1 with
  | false =>
    go_wp2_with fail
    refine (l1Once_any _ (w.heap.size + 1 + 1) A n cap i3 h3 4 hn (by omega) (by omega) C3.out).mono ?_
    rintro e w4 ⟨o2, i4, h4, rfl, c4, b4⟩
    have R4 := Lib.hid (blk_kept b4 R3.out (by omega))
    have Q4 := Lib.hid (blk_kept b4 Q3.out (by omega))
    have B4 := Lib.hid (blk_kept b4 B3.out (by omega))
    have K4 := Lib.hid (blk_kept b4 K3.out (by omega))
    have L4 := Lib.hid (L3.out.trans (below_of_only b4 (by omega) C3.out.lt))
    have C4 := Lib.hid c4
    clear c4 b4 R3 Q3 B3 K3 L3 C3
    cases o2 with
    | false =>
      obtain ⟨⟨r0, r1, r2, r3, r4, r5, r6⟩, t0, t1, t2, t3, t4, t5, t6⟩ := blk7 R4.out
      obtain ⟨⟨e0, e1, e2, e3⟩, v0, v1, v2, v3⟩ := blk4 Q4.out
      obtain ⟨⟨d0, d1, d2, d3, d4, d5, d6⟩, _⟩ := blk7 B4.out
      obtain ⟨⟨c0, c1, c2, c3⟩, _⟩ := blk4 K4.out
      go_wp2
      go_region_held3 (fun w' => (w'.cell? ⟨w1.heap.size, 0, none⟩ = some (.int .i64 ku) ∧ w'.cell? ⟨w1.heap.size, 1, none⟩ = some (.int .i64 ks) ∧ w'.cell? ⟨w1.heap.size, 2, none⟩ = some (.int .i64 kh) ∧ w'.cell? ⟨w1.heap.size, 3, none⟩ = some (.int .i64 ka) ∧ w'.cell? ⟨w1.heap.size, 4, none⟩ = some (.int .i64 y) ∧ w'.cell? ⟨w1.heap.size, 5, none⟩ = some (.string s) ∧ w'.cell? ⟨w1.heap.size, 6, none⟩ = some (.bool sp)) ∧ (w'.cell? ⟨w1.heap.size + 1, 0, none⟩ = some (.int .i64 ku) ∧ w'.cell? ⟨w1.heap.size + 1, 1, none⟩ = some (.int .i64 ks) ∧ w'.cell? ⟨w1.heap.size + 1, 2, none⟩ = some (.int .i64 kh) ∧ w'.cell? ⟨w1.heap.size + 1, 3, none⟩ = some (.int .i64 ka))) (go_keep) (fail)
      have RE : Hid ((setAll (setAll w4 w.heap.size 0 (BoxV.cells ⟨⟨ku, ks, kh, ka⟩, y, s, sp⟩)) (w.heap.size + 1) 0 [.int .i64 ku, .int .i64 ks, .int .i64 kh, .int .i64 ka]).heap[w.heap.size]? = some (.cells (BoxV.cells ⟨⟨ku, ks, kh, ka⟩, y, s, sp⟩).toArray 29 (0, 0))) := setAll_away (w := setAll w4 w.heap.size 0 (BoxV.cells ⟨⟨ku, ks, kh, ka⟩, y, s, sp⟩)) (b := w.heap.size) (g := w.heap.size + 1) (by omega) [.int .i64 ku, .int .i64 ks, .int .i64 kh, .int .i64 ka] 0 (setAll_whole (w := w4) (vs := BoxV.cells ⟨⟨ku, ks, kh, ka⟩, y, s, sp⟩) R4.out rfl)
      have QE : Hid ((setAll (setAll w4 w.heap.size 0 (BoxV.cells ⟨⟨ku, ks, kh, ka⟩, y, s, sp⟩)) (w.heap.size + 1) 0 [.int .i64 ku, .int .i64 ks, .int .i64 kh, .int .i64 ka]).heap[w.heap.size + 1]? = some (.cells (List.toArray [.int .i64 ku, .int .i64 ks, .int .i64 kh, .int .i64 ka]) 25 (0, 0))) := setAll_whole (w := setAll w4 w.heap.size 0 (BoxV.cells ⟨⟨ku, ks, kh, ka⟩, y, s, sp⟩)) (vs := [.int .i64 ku, .int .i64 ks, .int .i64 kh, .int .i64 ka]) (setAll_away (w := w4) (b := w.heap.size + 1) (g := w.heap.size) (by omega) (BoxV.cells ⟨⟨ku, ks, kh, ka⟩, y, s, sp⟩) 0 Q4.out) rfl
      have LE : Hid (Below w.heap.size w (setAll (setAll w4 w.heap.size 0 (BoxV.cells ⟨⟨ku, ks, kh, ka⟩, y, s, sp⟩)) (w.heap.size + 1) 0 [.int .i64 ku, .int .i64 ks, .int .i64 kh, .int .i64 ka])) := setAll_below (by omega) [.int .i64 ku, .int .i64 ks, .int .i64 kh, .int .i64 ka] 0 (setAll_below (Nat.le_refl _) (BoxV.cells ⟨⟨ku, ks, kh, ka⟩, y, s, sp⟩) 0 L4.out)
      go_wp2
      show bodyPost _ _ _ _ _ (World.drew (setAll (setAll w4 w.heap.size 0 (BoxV.cells ⟨⟨ku, ks, kh, ka⟩, y, s, sp⟩)) (w.heap.size + 1) 0 [.int .i64 ku, .int .i64 ks, .int .i64 kh, .int .i64 ka]))
      generalize setAll (setAll w4 w.heap.size 0 (BoxV.cells ⟨⟨ku, ks, kh, ka⟩, y, s, sp⟩)) (w.heap.size + 1) 0 [.int .i64 ku, .int .i64 ks, .int .i64 kh, .int .i64 ka] = WE at RE QE LE ⊢
      exact row_ret21 (w := WE.drew) (r := w.heap.size) (r' := w.heap.size + 1) (cs := (BoxV.cells ⟨⟨ku, ks, kh, ka⟩, y, s, sp⟩).toArray) (cs' := List.toArray [.int .i64 ku, .int .i64 ks, .int .i64 kh, .int .i64 ka]) rfl rfl rfl rfl
        RE.out Try.underlying29 rfl (by kernel_rfl) QE.out Try.underlying25 rfl (by kernel_rfl) rfl
        ⟨⟨⟨ku, ks, kh, ka⟩, y, s, sp⟩, ⟨ku, ks, kh, ka⟩, y, rfl, drewN_below LE.out 1⟩
    | true =>
      go_wp2_with fail
      refine (l1Below_any _ (w.heap.size + 1 + 1) A n cap i4 h4 4 hn (by omega) (by omega) C4.out).mono ?_
      rintro e w5 ⟨v, i5, h5, ⟨_, _⟩, rfl, c5, b5⟩
      have R5 := Lib.hid (blk_kept b5 R4.out (by omega))
      have Q5 := Lib.hid (blk_kept b5 Q4.out (by omega))
      have B5 := Lib.hid (blk_kept b5 B4.out (by omega))
      have K5 := Lib.hid (blk_kept b5 K4.out (by omega))
      have L5 := Lib.hid (L4.out.trans (below_of_only b5 (by omega) C4.out.lt))
      have C5 := Lib.hid c5
      clear c5 b5 R4 Q4 B4 K4 L4 C4
      obtain ⟨⟨r0, r1, r2, r3, r4, r5, r6⟩, t0, t1, t2, t3, t4, t5, t6⟩ := blk7 R5.out
      obtain ⟨⟨e0, e1, e2, e3⟩, v0, v1, v2, v3⟩ := blk4 Q5.out
      obtain ⟨⟨d0, d1, d2, d3, d4, d5, d6⟩, _⟩ := blk7 B5.out
      obtain ⟨⟨c0, c1, c2, c3⟩, _⟩ := blk4 K5.out
      go_wp2
      go_region_held3 (fun w' => (w'.cell? ⟨w1.heap.size, 0, none⟩ = some (.int .i64 ku) ∧ w'.cell? ⟨w1.heap.size, 1, none⟩ = some (.int .i64 ks) ∧ w'.cell? ⟨w1.heap.size, 2, none⟩ = some (.int .i64 kh) ∧ w'.cell? ⟨w1.heap.size, 3, none⟩ = some (.int .i64 ka) ∧ w'.cell? ⟨w1.heap.size, 4, none⟩ = some (.int .i64 y) ∧ w'.cell? ⟨w1.heap.size, 5, none⟩ = some (.string s) ∧ w'.cell? ⟨w1.heap.size, 6, none⟩ = some (.bool sp)) ∧ (w'.cell? ⟨w1.heap.size + 1, 0, none⟩ = some (.int .i64 ku) ∧ w'.cell? ⟨w1.heap.size + 1, 1, none⟩ = some (.int .i64 ks) ∧ w'.cell? ⟨w1.heap.size + 1, 2, none⟩ = some (.int .i64 kh) ∧ w'.cell? ⟨w1.heap.size + 1, 3, none⟩ = some (.int .i64 ka))) (go_keep) (fail)
      have RE : Hid ((setAll (setAll w5 w.heap.size 0 (BoxV.cells ⟨⟨ku, ks, kh, ka⟩, y, s, sp⟩)) (w.heap.size + 1) 0 [.int .i64 ku, .int .i64 ks, .int .i64 kh, .int .i64 ka]).heap[w.heap.size]? = some (.cells (BoxV.cells ⟨⟨ku, ks, kh, ka⟩, y, s, sp⟩).toArray 29 (0, 0))) := setAll_away (w := setAll w5 w.heap.size 0 (BoxV.cells ⟨⟨ku, ks, kh, ka⟩, y, s, sp⟩)) (b := w.heap.size) (g := w.heap.size + 1) (by omega) [.int .i64 ku, .int .i64 ks, .int .i64 kh, .int .i64 ka] 0 (setAll_whole (w := w5) (vs := BoxV.cells ⟨⟨ku, ks, kh, ka⟩, y, s, sp⟩) R5.out rfl)
      have QE : Hid ((setAll (setAll w5 w.heap.size 0 (BoxV.cells ⟨⟨ku, ks, kh, ka⟩, y, s, sp⟩)) (w.heap.size + 1) 0 [.int .i64 ku, .int .i64 ks, .int .i64 kh, .int .i64 ka]).heap[w.heap.size + 1]? = some (.cells (List.toArray [.int .i64 ku, .int .i64 ks, .int .i64 kh, .int .i64 ka]) 25 (0, 0))) := setAll_whole (w := setAll w5 w.heap.size 0 (BoxV.cells ⟨⟨ku, ks, kh, ka⟩, y, s, sp⟩)) (vs := [.int .i64 ku, .int .i64 ks, .int .i64 kh, .int .i64 ka]) (setAll_away (w := w5) (b := w.heap.size + 1) (g := w.heap.size) (by omega) (BoxV.cells ⟨⟨ku, ks, kh, ka⟩, y, s, sp⟩) 0 Q5.out) rfl
      have LE : Hid (Below w.heap.size w (setAll (setAll w5 w.heap.size 0 (BoxV.cells ⟨⟨ku, ks, kh, ka⟩, y, s, sp⟩)) (w.heap.size + 1) 0 [.int .i64 ku, .int .i64 ks, .int .i64 kh, .int .i64 ka])) := setAll_below (by omega) [.int .i64 ku, .int .i64 ks, .int .i64 kh, .int .i64 ka] 0 (setAll_below (Nat.le_refl _) (BoxV.cells ⟨⟨ku, ks, kh, ka⟩, y, s, sp⟩) 0 L5.out)
      go_wp2
      show bodyPost _ _ _ _ _ (World.drew (setAll (setAll w5 w.heap.size 0 (BoxV.cells ⟨⟨ku, ks, kh, ka⟩, y, s, sp⟩)) (w.heap.size + 1) 0 [.int .i64 ku, .int .i64 ks, .int .i64 kh, .int .i64 ka]))
      generalize setAll (setAll w5 w.heap.size 0 (BoxV.cells ⟨⟨ku, ks, kh, ka⟩, y, s, sp⟩)) (w.heap.size + 1) 0 [.int .i64 ku, .int .i64 ks, .int .i64 kh, .int .i64 ka] = WE at RE QE LE ⊢
      exact row_ret21 (w := WE.drew) (r := w.heap.size) (r' := w.heap.size + 1) (cs := (BoxV.cells ⟨⟨ku, ks, kh, ka⟩, y, s, sp⟩).toArray) (cs' := List.toArray [.int .i64 ku, .int .i64 ks, .int .i64 kh, .int .i64 ka]) rfl rfl rfl rfl
        RE.out Try.underlying29 rfl (by kernel_rfl) QE.out Try.underlying25 rfl (by kernel_rfl) rfl
        ⟨⟨⟨ku, ks, kh, ka⟩, y, s, sp⟩, ⟨ku, ks, kh, ka⟩, v, rfl, drewN_below LE.out 1⟩
  | true =>
    go_wp2_with fail
    refine (l3DrawAny_any _ (w.heap.size + 1 + 1) A n cap i3 h3 hn C3.out).mono ?_
    rintro e w4 ⟨⟨ju, js, jh, ja⟩, i4, h4, rfl, c4, b4⟩
    have R4 := Lib.hid (blk_kept b4 R3.out (by omega))
    have Q4 := Lib.hid (blk_kept b4 Q3.out (by omega))
    have B4 := Lib.hid (blk_kept b4 B3.out (by omega))
    have K4 := Lib.hid (blk_kept b4 K3.out (by omega))
    have L4 := Lib.hid (L3.out.trans (below_of_only b4 (by omega) C3.out.lt))
    have C4 := Lib.hid c4
    clear c4 b4 R3 Q3 B3 K3 L3 C3
    have HJ : Hid (KeyV.val ⟨ju, js, jh, ja⟩ = .agg #[.int .i64 ju, .int .i64 js, .int .i64 jh, .int .i64 ja]) := rfl
    rw [HJ.out]
    obtain ⟨W5, hW5⟩ : ∃ W, W = setAll w4 (w1.heap.size + 1) 0 [.int .i64 ju, .int .i64 js, .int .i64 jh, .int .i64 ja] := ⟨_, rfl⟩
    have R5 : Hid (W5.heap[w.heap.size]? = some _) := hW5 ▸ setAll_away (by omega) [.int .i64 ju, .int .i64 js, .int .i64 jh, .int .i64 ja] 0 R4.out
    have Q5 : Hid (W5.heap[w.heap.size + 1]? = some _) := hW5 ▸ setAll_away (by omega) [.int .i64 ju, .int .i64 js, .int .i64 jh, .int .i64 ja] 0 Q4.out
    have B5 : Hid (W5.heap[w1.heap.size]? = some _) := hW5 ▸ setAll_away (by omega) [.int .i64 ju, .int .i64 js, .int .i64 jh, .int .i64 ja] 0 B4.out
    have K5 : Hid (W5.heap[w1.heap.size + 1]? = some (.cells #[.int .i64 ju, .int .i64 js, .int .i64 jh, .int .i64 ja] 25)) := hW5 ▸ setAll_whole (vs := [.int .i64 ju, .int .i64 js, .int .i64 jh, .int .i64 ja]) K4.out rfl
    have L5 : Hid (Below w.heap.size w W5) := hW5 ▸ setAll_below (by omega) [.int .i64 ju, .int .i64 js, .int .i64 jh, .int .i64 ja] 0 L4.out
    have C5 : Hid (Cur W5 (w.heap.size + 1 + 1) A n cap i4 h4) := hW5 ▸ Cur.farAll (by omega) [.int .i64 ju, .int .i64 js, .int .i64 jh, .int .i64 ja] 0 C4.out
    obtain ⟨⟨g0, g1, g2, g3⟩, k0, k1, k2, k3⟩ := blk4 K4.out
    have HW5 := Lib.hid hW5
    clear hW5 R4 Q4 B4 K4 L4 C4
    go_wp2_with fail
    have hWW : ((((w4.setCell ⟨w1.heap.size + 1, 0, none⟩ (.int .i64 ju)).setCell ⟨w1.heap.size + 1, 1, none⟩ (.int .i64 js)).setCell ⟨w1.heap.size + 1, 2, none⟩ (.int .i64 jh)).setCell ⟨w1.heap.size + 1, 3, none⟩ (.int .i64 ja)) = W5 := HW5.out.symm
    rw [hWW]
    clear hWW HW5 g0 g1 g2 g3 k0 k1 k2 k3
    refine (l1Once_any _ (w.heap.size + 1 + 1) A n cap i4 h4 4 hn (by omega) (by omega) C5.out).mono ?_
    rintro e w6 ⟨o2, i6, h6, rfl, c6, b6⟩
    have R6 := Lib.hid (blk_kept b6 R5.out (by omega))
    have Q6 := Lib.hid (blk_kept b6 Q5.out (by omega))
    have B6 := Lib.hid (blk_kept b6 B5.out (by omega))
    have K6 := Lib.hid (blk_kept b6 K5.out (by omega))
    have L6 := Lib.hid (L5.out.trans (below_of_only b6 (by omega) C5.out.lt))
    have C6 := Lib.hid c6
    clear c6 b6 R5 Q5 B5 K5 L5 C5
    cases o2 with
    | false =>
      obtain ⟨⟨r0, r1, r2, r3, r4, r5, r6⟩, t0, t1, t2, t3, t4, t5, t6⟩ := blk7 R6.out
      obtain ⟨⟨e0, e1, e2, e3⟩, v0, v1, v2, v3⟩ := blk4 Q6.out
      obtain ⟨⟨d0, d1, d2, d3, d4, d5, d6⟩, _⟩ := blk7 B6.out
      obtain ⟨⟨c0, c1, c2, c3⟩, _⟩ := blk4 K6.out
      go_wp2
      go_region_held3 (fun w' => (w'.cell? ⟨w1.heap.size, 0, none⟩ = some (.int .i64 ku) ∧ w'.cell? ⟨w1.heap.size, 1, none⟩ = some (.int .i64 ks) ∧ w'.cell? ⟨w1.heap.size, 2, none⟩ = some (.int .i64 kh) ∧ w'.cell? ⟨w1.heap.size, 3, none⟩ = some (.int .i64 ka) ∧ w'.cell? ⟨w1.heap.size, 4, none⟩ = some (.int .i64 y) ∧ w'.cell? ⟨w1.heap.size, 5, none⟩ = some (.string s) ∧ w'.cell? ⟨w1.heap.size, 6, none⟩ = some (.bool sp)) ∧ (w'.cell? ⟨w1.heap.size + 1, 0, none⟩ = some (.int .i64 ju) ∧ w'.cell? ⟨w1.heap.size + 1, 1, none⟩ = some (.int .i64 js) ∧ w'.cell? ⟨w1.heap.size + 1, 2, none⟩ = some (.int .i64 jh) ∧ w'.cell? ⟨w1.heap.size + 1, 3, none⟩ = some (.int .i64 ja))) (go_keep) (fail)
      have RE : Hid ((setAll (setAll w6 w.heap.size 0 (BoxV.cells ⟨⟨ku, ks, kh, ka⟩, y, s, sp⟩)) (w.heap.size + 1) 0 [.int .i64 ju, .int .i64 js, .int .i64 jh, .int .i64 ja]).heap[w.heap.size]? = some (.cells (BoxV.cells ⟨⟨ku, ks, kh, ka⟩, y, s, sp⟩).toArray 29 (0, 0))) := setAll_away (w := setAll w6 w.heap.size 0 (BoxV.cells ⟨⟨ku, ks, kh, ka⟩, y, s, sp⟩)) (b := w.heap.size) (g := w.heap.size + 1) (by omega) [.int .i64 ju, .int .i64 js, .int .i64 jh, .int .i64 ja] 0 (setAll_whole (w := w6) (vs := BoxV.cells ⟨⟨ku, ks, kh, ka⟩, y, s, sp⟩) R6.out rfl)
      have QE : Hid ((setAll (setAll w6 w.heap.size 0 (BoxV.cells ⟨⟨ku, ks, kh, ka⟩, y, s, sp⟩)) (w.heap.size + 1) 0 [.int .i64 ju, .int .i64 js, .int .i64 jh, .int .i64 ja]).heap[w.heap.size + 1]? = some (.cells (List.toArray [.int .i64 ju, .int .i64 js, .int .i64 jh, .int .i64 ja]) 25 (0, 0))) := setAll_whole (w := setAll w6 w.heap.size 0 (BoxV.cells ⟨⟨ku, ks, kh, ka⟩, y, s, sp⟩)) (vs := [.int .i64 ju, .int .i64 js, .int .i64 jh, .int .i64 ja]) (setAll_away (w := w6) (b := w.heap.size + 1) (g := w.heap.size) (by omega) (BoxV.cells ⟨⟨ku, ks, kh, ka⟩, y, s, sp⟩) 0 Q6.out) rfl
      have LE : Hid (Below w.heap.size w (setAll (setAll w6 w.heap.size 0 (BoxV.cells ⟨⟨ku, ks, kh, ka⟩, y, s, sp⟩)) (w.heap.size + 1) 0 [.int .i64 ju, .int .i64 js, .int .i64 jh, .int .i64 ja])) := setAll_below (by omega) [.int .i64 ju, .int .i64 js, .int .i64 jh, .int .i64 ja] 0 (setAll_below (Nat.le_refl _) (BoxV.cells ⟨⟨ku, ks, kh, ka⟩, y, s, sp⟩) 0 L6.out)
      go_wp2
      show bodyPost _ _ _ _ _ (World.drew (setAll (setAll w6 w.heap.size 0 (BoxV.cells ⟨⟨ku, ks, kh, ka⟩, y, s, sp⟩)) (w.heap.size + 1) 0 [.int .i64 ju, .int .i64 js, .int .i64 jh, .int .i64 ja]))
      generalize setAll (setAll w6 w.heap.size 0 (BoxV.cells ⟨⟨ku, ks, kh, ka⟩, y, s, sp⟩)) (w.heap.size + 1) 0 [.int .i64 ju, .int .i64 js, .int .i64 jh, .int .i64 ja] = WE at RE QE LE ⊢
      exact row_ret21 (w := WE.drew) (r := w.heap.size) (r' := w.heap.size + 1) (cs := (BoxV.cells ⟨⟨ku, ks, kh, ka⟩, y, s, sp⟩).toArray) (cs' := List.toArray [.int .i64 ju, .int .i64 js, .int .i64 jh, .int .i64 ja]) rfl rfl rfl rfl
        RE.out Try.underlying29 rfl (by kernel_rfl) QE.out Try.underlying25 rfl (by kernel_rfl) rfl
        ⟨⟨⟨ku, ks, kh, ka⟩, y, s, sp⟩, ⟨ju, js, jh, ja⟩, y, rfl, drewN_below LE.out 1⟩
    | true =>
      go_wp2_with fail
      refine (l1Below_any _ (w.heap.size + 1 + 1) A n cap i6 h6 4 hn (by omega) (by omega) C6.out).mono ?_
      rintro e w7 ⟨v, i7, h7, ⟨_, _⟩, rfl, c7, b7⟩
      have R7 := Lib.hid (blk_kept b7 R6.out (by omega))
      have Q7 := Lib.hid (blk_kept b7 Q6.out (by omega))
      have B7 := Lib.hid (blk_kept b7 B6.out (by omega))
      have K7 := Lib.hid (blk_kept b7 K6.out (by omega))
      have L7 := Lib.hid (L6.out.trans (below_of_only b7 (by omega) C6.out.lt))
      have C7 := Lib.hid c7
      clear c7 b7 R6 Q6 B6 K6 L6 C6
      obtain ⟨⟨r0, r1, r2, r3, r4, r5, r6⟩, t0, t1, t2, t3, t4, t5, t6⟩ := blk7 R7.out
      obtain ⟨⟨e0, e1, e2, e3⟩, v0, v1, v2, v3⟩ := blk4 Q7.out
      obtain ⟨⟨d0, d1, d2, d3, d4, d5, d6⟩, _⟩ := blk7 B7.out
      obtain ⟨⟨c0, c1, c2, c3⟩, _⟩ := blk4 K7.out
      go_wp2
      go_region_held3 (fun w' => (w'.cell? ⟨w1.heap.size, 0, none⟩ = some (.int .i64 ku) ∧ w'.cell? ⟨w1.heap.size, 1, none⟩ = some (.int .i64 ks) ∧ w'.cell? ⟨w1.heap.size, 2, none⟩ = some (.int .i64 kh) ∧ w'.cell? ⟨w1.heap.size, 3, none⟩ = some (.int .i64 ka) ∧ w'.cell? ⟨w1.heap.size, 4, none⟩ = some (.int .i64 y) ∧ w'.cell? ⟨w1.heap.size, 5, none⟩ = some (.string s) ∧ w'.cell? ⟨w1.heap.size, 6, none⟩ = some (.bool sp)) ∧ (w'.cell? ⟨w1.heap.size + 1, 0, none⟩ = some (.int .i64 ju) ∧ w'.cell? ⟨w1.heap.size + 1, 1, none⟩ = some (.int .i64 js) ∧ w'.cell? ⟨w1.heap.size + 1, 2, none⟩ = some (.int .i64 jh) ∧ w'.cell? ⟨w1.heap.size + 1, 3, none⟩ = some (.int .i64 ja))) (go_keep) (fail)
      have RE : Hid ((setAll (setAll w7 w.heap.size 0 (BoxV.cells ⟨⟨ku, ks, kh, ka⟩, y, s, sp⟩)) (w.heap.size + 1) 0 [.int .i64 ju, .int .i64 js, .int .i64 jh, .int .i64 ja]).heap[w.heap.size]? = some (.cells (BoxV.cells ⟨⟨ku, ks, kh, ka⟩, y, s, sp⟩).toArray 29 (0, 0))) := setAll_away (w := setAll w7 w.heap.size 0 (BoxV.cells ⟨⟨ku, ks, kh, ka⟩, y, s, sp⟩)) (b := w.heap.size) (g := w.heap.size + 1) (by omega) [.int .i64 ju, .int .i64 js, .int .i64 jh, .int .i64 ja] 0 (setAll_whole (w := w7) (vs := BoxV.cells ⟨⟨ku, ks, kh, ka⟩, y, s, sp⟩) R7.out rfl)
      have QE : Hid ((setAll (setAll w7 w.heap.size 0 (BoxV.cells ⟨⟨ku, ks, kh, ka⟩, y, s, sp⟩)) (w.heap.size + 1) 0 [.int .i64 ju, .int .i64 js, .int .i64 jh, .int .i64 ja]).heap[w.heap.size + 1]? = some (.cells (List.toArray [.int .i64 ju, .int .i64 js, .int .i64 jh, .int .i64 ja]) 25 (0, 0))) := setAll_whole (w := setAll w7 w.heap.size 0 (BoxV.cells ⟨⟨ku, ks, kh, ka⟩, y, s, sp⟩)) (vs := [.int .i64 ju, .int .i64 js, .int .i64 jh, .int .i64 ja]) (setAll_away (w := w7) (b := w.heap.size + 1) (g := w.heap.size) (by omega) (BoxV.cells ⟨⟨ku, ks, kh, ka⟩, y, s, sp⟩) 0 Q7.out) rfl
      have LE : Hid (Below w.heap.size w (setAll (setAll w7 w.heap.size 0 (BoxV.cells ⟨⟨ku, ks, kh, ka⟩, y, s, sp⟩)) (w.heap.size + 1) 0 [.int .i64 ju, .int .i64 js, .int .i64 jh, .int .i64 ja])) := setAll_below (by omega) [.int .i64 ju, .int .i64 js, .int .i64 jh, .int .i64 ja] 0 (setAll_below (Nat.le_refl _) (BoxV.cells ⟨⟨ku, ks, kh, ka⟩, y, s, sp⟩) 0 L7.out)
      go_wp2
      show bodyPost _ _ _ _ _ (World.drew (setAll (setAll w7 w.heap.size 0 (BoxV.cells ⟨⟨ku, ks, kh, ka⟩, y, s, sp⟩)) (w.heap.size + 1) 0 [.int .i64 ju, .int .i64 js, .int .i64 jh, .int .i64 ja]))
      generalize setAll (setAll w7 w.heap.size 0 (BoxV.cells ⟨⟨ku, ks, kh, ka⟩, y, s, sp⟩)) (w.heap.size + 1) 0 [.int .i64 ju, .int .i64 js, .int .i64 jh, .int .i64 ja] = WE at RE QE LE ⊢
      exact row_ret21 (w := WE.drew) (r := w.heap.size) (r' := w.heap.size + 1) (cs := (BoxV.cells ⟨⟨ku, ks, kh, ka⟩, y, s, sp⟩).toArray) (cs' := List.toArray [.int .i64 ju, .int .i64 js, .int .i64 jh, .int .i64 ja]) rfl rfl rfl rfl
        RE.out Try.underlying29 rfl (by kernel_rfl) QE.out Try.underlying25 rfl (by kernel_rfl) rfl
        ⟨⟨⟨ku, ks, kh, ka⟩, y, s, sp⟩, ⟨ju, js, jh, ja⟩, v, rfl, drewN_below LE.out 1⟩

end Go.Proofs.Ytfllkiidjahmjaa.Tx

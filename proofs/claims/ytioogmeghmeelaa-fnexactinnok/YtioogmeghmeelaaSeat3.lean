/-
  What toSeat, szSeat, eqSeat, markSeat and heldSeat of the laws do, and what EarlyIn of the model answers. Conditions: at most 1048576 words, each text at most 2^63 - 1 bytes.
-/
import Derived.Test.YtioogmeghmeelaaSeat
import Derived.Test.YtioogmeghmeelaaWordLists
import Derived.Test.YtioogmeghmeelaaWordMarks
import Derived.Test.YtioogmeghmeelaaCopyE
import Derived.Test.YtioogmeghmeelaaOffs
namespace Go.Proofs.Ytioogmeghmeelaa.Tx
open Go.RowKit

theorem There.heap {w w' : World} {g a b : Nat} (h : There w g a b) (he : w'.heap[g]? = w.heap[g]?) : There w' g a b := fun t h0 h1 => by
  obtain ⟨⟨v, e⟩, e'⟩ := h t h0 h1
  exact ⟨⟨v, (World.cell?_of_block (w := w) (a := ⟨g, t, none⟩) he).trans e⟩, (World.frozen?_of_block (w := w) (a := ⟨g, t, none⟩) he).trans e'⟩
theorem CopyE.heap {α : Type} [Cells α] {w w' : World} {g n : Nat} {l : List α} (h : CopyE w g n l) (he : w'.heap[g]? = w.heap[g]?) (hs : w.heap.size ≤ w'.heap.size) : CopyE w' g n l := ⟨h.lies.heap he hs, h.room.heap he⟩

set_option maxRecDepth 100000 in
set_option maxHeartbeats 8000000 in
theorem toSeat_any (s : SeatV) (A : Option Addr) (n cap : Nat) (l : List WordV) (w : World) (h : EltsO w w.heap.size A n l) (hn : n ≤ 1048576) :
    Calls Try.prog 30 #[s.val A n cap] w fun e w' => ∃ g, e = .returned (s.val (some ⟨g, 0, none⟩) n n) ∧ w.heap.size ≤ g ∧ CopyE w' g n l ∧ Below w.heap.size w w' := by
  obtain ⟨st, sh, sd, sp, ⟨⟨eu, es, eh, ea⟩, en⟩, ⟨⟨fu, fs, fh, fa⟩, fn⟩⟩ := s
  have HV : Hid (SeatV.val ⟨st, sh, sd, sp, ⟨⟨eu, es, eh, ea⟩, en⟩, ⟨⟨fu, fs, fh, fa⟩, fn⟩⟩ A n cap = .agg #[.int .i64 st, .int .i64 sh, .int .i64 sd, .int .i64 sp, .int .i64 eu, .int .i64 es, .int .i64 eh, .int .i64 ea, .int .i64 en, .int .i64 fu, .int .i64 fs, .int .i64 fh, .int .i64 fa, .int .i64 fn, .slice A n cap]) := rfl
  rw [HV.out]
  clear HV
  have cRe : Hid (∀ w' : World, Calls Try.prog 43 #[.agg #[.int .i64 eu, .int .i64 es, .int .i64 eh, .int .i64 ea, .int .i64 en]] w' fun e w'' => e = .returned (.agg #[.int .i64 eu, .int .i64 es, .int .i64 eh, .int .i64 ea, .int .i64 en]) ∧ Below w'.heap.size w' w'') := fun w' => by exact toRow_any ⟨⟨eu, es, eh, ea⟩, en⟩ w'
  have cRf : Hid (∀ w' : World, Calls Try.prog 43 #[.agg #[.int .i64 fu, .int .i64 fs, .int .i64 fh, .int .i64 fa, .int .i64 fn]] w' fun e w'' => e = .returned (.agg #[.int .i64 fu, .int .i64 fs, .int .i64 fh, .int .i64 fa, .int .i64 fn]) ∧ Below w'.heap.size w' w'') := fun w' => by exact toRow_any ⟨⟨fu, fs, fh, fa⟩, fn⟩ w'
  obtain ⟨W0, hW0⟩ : ∃ W, ((w.alloc (.cells #[.int .i64 st, .int .i64 sh, .int .i64 sd, .int .i64 sp, .int .i64 eu, .int .i64 es, .int .i64 eh, .int .i64 ea, .int .i64 en, .int .i64 fu, .int .i64 fs, .int .i64 fh, .int .i64 fa, .int .i64 fn, .slice A n cap] 61)).alloc (.cells #[.int .i64 0, .int .i64 0, .int .i64 0, .int .i64 0, .int .i64 0, .int .i64 0, .int .i64 0, .int .i64 0, .int .i64 0, .int .i64 0, .int .i64 0, .int .i64 0, .int .i64 0, .int .i64 0, .slice none 0 0] 46)).alloc (.cells #[.int .i64 0, .int .i64 0, .int .i64 0, .int .i64 0, .int .i64 0, .int .i64 0, .int .i64 0, .int .i64 0, .int .i64 0, .int .i64 0, .int .i64 0, .int .i64 0, .int .i64 0, .int .i64 0, .slice none 0 0] 46) = W := ⟨_, rfl⟩
  have K0 : Hid (Below w.heap.size w W0) := by rw [← hW0]; exact (((Below.refl _ w).alloc (Nat.le_refl _) _).alloc (by simp; try omega) _).alloc (by simp; try omega) _
  have Q0 : Hid (W0.heap[w.heap.size]? = some (.cells #[.int .i64 st, .int .i64 sh, .int .i64 sd, .int .i64 sp, .int .i64 eu, .int .i64 es, .int .i64 eh, .int .i64 ea, .int .i64 en, .int .i64 fu, .int .i64 fs, .int .i64 fh, .int .i64 fa, .int .i64 fn, .slice A n cap] 61)) := by rw [← hW0]; exact heap3a w _ _ _
  have R0 : Hid (W0.heap[w.heap.size + 1]? = some (.cells #[.int .i64 0, .int .i64 0, .int .i64 0, .int .i64 0, .int .i64 0, .int .i64 0, .int .i64 0, .int .i64 0, .int .i64 0, .int .i64 0, .int .i64 0, .int .i64 0, .int .i64 0, .int .i64 0, .slice none 0 0] 46)) := by rw [← hW0]; exact heap3b w _ _ _
  have O0 : Hid (W0.heap[w.heap.size + 1 + 1]? = some (.cells #[.int .i64 0, .int .i64 0, .int .i64 0, .int .i64 0, .int .i64 0, .int .i64 0, .int .i64 0, .int .i64 0, .int .i64 0, .int .i64 0, .int .i64 0, .int .i64 0, .int .i64 0, .int .i64 0, .slice none 0 0] 46)) := by rw [← hW0]; exact heap3c w _ _ _
  have E0 : Hid (EltsO W0 w.heap.size A n l) := Lib.hid (h.below K0.out)
  clear h
  go_enter Try.func30, Try.ntmps30
  obtain ⟨⟨a0, a1, a2, a3, a4, a5, a6, a7, a8, a9, a10, a11, a12, a13, a14⟩, _⟩ := blk15 Q0.out
  obtain ⟨⟨b0, b1, b2, b3, b4, b5, b6, b7, b8, b9, b10, b11, b12, b13, b14⟩, bz0, bz1, bz2, bz3, bz4, bz5, bz6, bz7, bz8, bz9, bz10, bz11, bz12, bz13, bz14⟩ := blk15 O0.out
  obtain ⟨S1, qS1⟩ : ∃ W, setAll W0 (w.heap.size + 1 + 1) 0 [.int .i64 st, .int .i64 sh, .int .i64 sd, .int .i64 sp] = W := ⟨_, rfl⟩
  have hS1 : ((((W0.setCell ⟨w.heap.size + 1 + 1, 0, none⟩ (.int .i64 st)).setCell ⟨w.heap.size + 1 + 1, 1, none⟩ (.int .i64 sh)).setCell ⟨w.heap.size + 1 + 1, 2, none⟩ (.int .i64 sd)).setCell ⟨w.heap.size + 1 + 1, 3, none⟩ (.int .i64 sp)) = S1 := qS1
  have Q1 : Hid (S1.heap[w.heap.size]? = some (.cells #[.int .i64 st, .int .i64 sh, .int .i64 sd, .int .i64 sp, .int .i64 eu, .int .i64 es, .int .i64 eh, .int .i64 ea, .int .i64 en, .int .i64 fu, .int .i64 fs, .int .i64 fh, .int .i64 fa, .int .i64 fn, .slice A n cap] 61)) := by rw [← qS1]; exact setAll_away (by omega) _ _ Q0.out
  have R1 : Hid (S1.heap[w.heap.size + 1]? = some (.cells #[.int .i64 0, .int .i64 0, .int .i64 0, .int .i64 0, .int .i64 0, .int .i64 0, .int .i64 0, .int .i64 0, .int .i64 0, .int .i64 0, .int .i64 0, .int .i64 0, .int .i64 0, .int .i64 0, .slice none 0 0] 46)) := by rw [← qS1]; exact setAll_away (by omega) _ _ R0.out
  have O1 : Hid (S1.heap[w.heap.size + 1 + 1]? = some (.cells #[.int .i64 st, .int .i64 sh, .int .i64 sd, .int .i64 sp, .int .i64 0, .int .i64 0, .int .i64 0, .int .i64 0, .int .i64 0, .int .i64 0, .int .i64 0, .int .i64 0, .int .i64 0, .int .i64 0, .slice none 0 0] 46)) := by
    rw [← qS1]
    refine (setAll_blk (w := W0) (g := (w.heap.size + 1 + 1)) [.int .i64 st, .int .i64 sh, .int .i64 sd, .int .i64 sp] 0 O0.out).trans ?_
    refine congrArg (fun z => some (Obj.cells z 46 (0, 0))) (Array.toList_inj.1 ?_)
    rw [overA_toList _ _ _ (by simp)]
    rfl
  have K1 : Hid (Below w.heap.size w S1) := by rw [← qS1]; exact setAll_below (g := (w.heap.size + 1 + 1)) (by omega) [.int .i64 st, .int .i64 sh, .int .i64 sd, .int .i64 sp] 0 K0.out
  have zS1 : W0.heap.size = S1.heap.size := by rw [← qS1]; exact (setAll_size [.int .i64 st, .int .i64 sh, .int .i64 sd, .int .i64 sp] 0 _).symm
  have E1 := Lib.hid (E0.out.below (show Below w.heap.size W0 S1 by rw [← qS1]; exact setAll_below (g := (w.heap.size + 1 + 1)) (by omega) [.int .i64 st, .int .i64 sh, .int .i64 sd, .int .i64 sp] 0 (Below.refl _ _)))
  clear qS1 Q0 R0 O0 K0 E0
  obtain ⟨⟨c0, c1, c2, c3, c4, c5, c6, c7, c8, c9, c10, c11, c12, c13, c14⟩, _⟩ := blk15 Q1.out
  go_wp2_with fail
  clear a0 a1 a2 a3 a4 a5 a6 a7 a8 a9 a10 a11 a12 a13 a14
  clear b0 b1 b2 b3 b4 b5 b6 b7 b8 b9 b10 b11 b12 b13 b14 bz0 bz1 bz2 bz3 bz4 bz5 bz6 bz7 bz8 bz9 bz10 bz11 bz12 bz13 bz14
  clear c0 c1 c2 c3 c4 c5 c6 c7 c8 c9 c10 c11 c12 c13 c14
  clear hW0 hS1
  refine (cRe.out _).mono ?_
  rintro e w2 ⟨rfl, hb⟩
  have Q2 := Lib.hid (blk_on hb Q1.out)
  have R2 := Lib.hid (blk_on hb R1.out)
  have O2 := Lib.hid (blk_on hb O1.out)
  have E2 := Lib.hid (E1.out.below (hb.mono K1.out.size))
  have K2 := Lib.hid (K1.out.trans (hb.mono K1.out.size))
  clear hb Q1 R1 O1 K1 E1
  obtain ⟨⟨a0, a1, a2, a3, a4, a5, a6, a7, a8, a9, a10, a11, a12, a13, a14⟩, _⟩ := blk15 Q2.out
  obtain ⟨⟨b0, b1, b2, b3, b4, b5, b6, b7, b8, b9, b10, b11, b12, b13, b14⟩, bz0, bz1, bz2, bz3, bz4, bz5, bz6, bz7, bz8, bz9, bz10, bz11, bz12, bz13, bz14⟩ := blk15 O2.out
  obtain ⟨S3, qS3⟩ : ∃ W, setAll w2 (w.heap.size + 1 + 1) 4 [.int .i64 eu, .int .i64 es, .int .i64 eh, .int .i64 ea, .int .i64 en] = W := ⟨_, rfl⟩
  have hS3 : (((((w2.setCell ⟨w.heap.size + 1 + 1, 4, none⟩ (.int .i64 eu)).setCell ⟨w.heap.size + 1 + 1, 5, none⟩ (.int .i64 es)).setCell ⟨w.heap.size + 1 + 1, 6, none⟩ (.int .i64 eh)).setCell ⟨w.heap.size + 1 + 1, 7, none⟩ (.int .i64 ea)).setCell ⟨w.heap.size + 1 + 1, 8, none⟩ (.int .i64 en)) = S3 := qS3
  have Q3 : Hid (S3.heap[w.heap.size]? = some (.cells #[.int .i64 st, .int .i64 sh, .int .i64 sd, .int .i64 sp, .int .i64 eu, .int .i64 es, .int .i64 eh, .int .i64 ea, .int .i64 en, .int .i64 fu, .int .i64 fs, .int .i64 fh, .int .i64 fa, .int .i64 fn, .slice A n cap] 61)) := by rw [← qS3]; exact setAll_away (by omega) _ _ Q2.out
  have R3 : Hid (S3.heap[w.heap.size + 1]? = some (.cells #[.int .i64 0, .int .i64 0, .int .i64 0, .int .i64 0, .int .i64 0, .int .i64 0, .int .i64 0, .int .i64 0, .int .i64 0, .int .i64 0, .int .i64 0, .int .i64 0, .int .i64 0, .int .i64 0, .slice none 0 0] 46)) := by rw [← qS3]; exact setAll_away (by omega) _ _ R2.out
  have O3 : Hid (S3.heap[w.heap.size + 1 + 1]? = some (.cells #[.int .i64 st, .int .i64 sh, .int .i64 sd, .int .i64 sp, .int .i64 eu, .int .i64 es, .int .i64 eh, .int .i64 ea, .int .i64 en, .int .i64 0, .int .i64 0, .int .i64 0, .int .i64 0, .int .i64 0, .slice none 0 0] 46)) := by
    rw [← qS3]
    refine (setAll_blk (w := w2) (g := (w.heap.size + 1 + 1)) [.int .i64 eu, .int .i64 es, .int .i64 eh, .int .i64 ea, .int .i64 en] 4 O2.out).trans ?_
    refine congrArg (fun z => some (Obj.cells z 46 (0, 0))) (Array.toList_inj.1 ?_)
    rw [overA_toList _ _ _ (by simp)]
    rfl
  have K3 : Hid (Below w.heap.size w S3) := by rw [← qS3]; exact setAll_below (g := (w.heap.size + 1 + 1)) (by omega) [.int .i64 eu, .int .i64 es, .int .i64 eh, .int .i64 ea, .int .i64 en] 4 K2.out
  have zS3 : w2.heap.size = S3.heap.size := by rw [← qS3]; exact (setAll_size [.int .i64 eu, .int .i64 es, .int .i64 eh, .int .i64 ea, .int .i64 en] 4 _).symm
  have E3 := Lib.hid (E2.out.below (show Below w.heap.size w2 S3 by rw [← qS3]; exact setAll_below (g := (w.heap.size + 1 + 1)) (by omega) [.int .i64 eu, .int .i64 es, .int .i64 eh, .int .i64 ea, .int .i64 en] 4 (Below.refl _ _)))
  clear qS3 Q2 R2 O2 K2 E2
  obtain ⟨⟨c0, c1, c2, c3, c4, c5, c6, c7, c8, c9, c10, c11, c12, c13, c14⟩, _⟩ := blk15 Q3.out
  go_wp2_with fail
  clear a0 a1 a2 a3 a4 a5 a6 a7 a8 a9 a10 a11 a12 a13 a14
  clear b0 b1 b2 b3 b4 b5 b6 b7 b8 b9 b10 b11 b12 b13 b14 bz0 bz1 bz2 bz3 bz4 bz5 bz6 bz7 bz8 bz9 bz10 bz11 bz12 bz13 bz14
  clear c0 c1 c2 c3 c4 c5 c6 c7 c8 c9 c10 c11 c12 c13 c14
  clear hS3
  refine (cRf.out _).mono ?_
  rintro e w4 ⟨rfl, hb⟩
  have Q4 := Lib.hid (blk_on hb Q3.out)
  have R4 := Lib.hid (blk_on hb R3.out)
  have O4 := Lib.hid (blk_on hb O3.out)
  have E4 := Lib.hid (E3.out.below (hb.mono K3.out.size))
  have K4 := Lib.hid (K3.out.trans (hb.mono K3.out.size))
  clear hb Q3 R3 O3 K3 E3
  obtain ⟨⟨a0, a1, a2, a3, a4, a5, a6, a7, a8, a9, a10, a11, a12, a13, a14⟩, _⟩ := blk15 Q4.out
  obtain ⟨⟨b0, b1, b2, b3, b4, b5, b6, b7, b8, b9, b10, b11, b12, b13, b14⟩, bz0, bz1, bz2, bz3, bz4, bz5, bz6, bz7, bz8, bz9, bz10, bz11, bz12, bz13, bz14⟩ := blk15 O4.out
  obtain ⟨S5, qS5⟩ : ∃ W, setAll w4 (w.heap.size + 1 + 1) 9 [.int .i64 fu, .int .i64 fs, .int .i64 fh, .int .i64 fa, .int .i64 fn] = W := ⟨_, rfl⟩
  have hS5 : (((((w4.setCell ⟨w.heap.size + 1 + 1, 9, none⟩ (.int .i64 fu)).setCell ⟨w.heap.size + 1 + 1, 10, none⟩ (.int .i64 fs)).setCell ⟨w.heap.size + 1 + 1, 11, none⟩ (.int .i64 fh)).setCell ⟨w.heap.size + 1 + 1, 12, none⟩ (.int .i64 fa)).setCell ⟨w.heap.size + 1 + 1, 13, none⟩ (.int .i64 fn)) = S5 := qS5
  have Q5 : Hid (S5.heap[w.heap.size]? = some (.cells #[.int .i64 st, .int .i64 sh, .int .i64 sd, .int .i64 sp, .int .i64 eu, .int .i64 es, .int .i64 eh, .int .i64 ea, .int .i64 en, .int .i64 fu, .int .i64 fs, .int .i64 fh, .int .i64 fa, .int .i64 fn, .slice A n cap] 61)) := by rw [← qS5]; exact setAll_away (by omega) _ _ Q4.out
  have R5 : Hid (S5.heap[w.heap.size + 1]? = some (.cells #[.int .i64 0, .int .i64 0, .int .i64 0, .int .i64 0, .int .i64 0, .int .i64 0, .int .i64 0, .int .i64 0, .int .i64 0, .int .i64 0, .int .i64 0, .int .i64 0, .int .i64 0, .int .i64 0, .slice none 0 0] 46)) := by rw [← qS5]; exact setAll_away (by omega) _ _ R4.out
  have O5 : Hid (S5.heap[w.heap.size + 1 + 1]? = some (.cells #[.int .i64 st, .int .i64 sh, .int .i64 sd, .int .i64 sp, .int .i64 eu, .int .i64 es, .int .i64 eh, .int .i64 ea, .int .i64 en, .int .i64 fu, .int .i64 fs, .int .i64 fh, .int .i64 fa, .int .i64 fn, .slice none 0 0] 46)) := by
    rw [← qS5]
    refine (setAll_blk (w := w4) (g := (w.heap.size + 1 + 1)) [.int .i64 fu, .int .i64 fs, .int .i64 fh, .int .i64 fa, .int .i64 fn] 9 O4.out).trans ?_
    refine congrArg (fun z => some (Obj.cells z 46 (0, 0))) (Array.toList_inj.1 ?_)
    rw [overA_toList _ _ _ (by simp)]
    rfl
  have K5 : Hid (Below w.heap.size w S5) := by rw [← qS5]; exact setAll_below (g := (w.heap.size + 1 + 1)) (by omega) [.int .i64 fu, .int .i64 fs, .int .i64 fh, .int .i64 fa, .int .i64 fn] 9 K4.out
  have zS5 : w4.heap.size = S5.heap.size := by rw [← qS5]; exact (setAll_size [.int .i64 fu, .int .i64 fs, .int .i64 fh, .int .i64 fa, .int .i64 fn] 9 _).symm
  have E5 := Lib.hid (E4.out.below (show Below w.heap.size w4 S5 by rw [← qS5]; exact setAll_below (g := (w.heap.size + 1 + 1)) (by omega) [.int .i64 fu, .int .i64 fs, .int .i64 fh, .int .i64 fa, .int .i64 fn] 9 (Below.refl _ _)))
  clear qS5 Q4 R4 O4 K4 E4
  obtain ⟨⟨c0, c1, c2, c3, c4, c5, c6, c7, c8, c9, c10, c11, c12, c13, c14⟩, _⟩ := blk15 Q5.out
  go_wp2_with fail
  clear a0 a1 a2 a3 a4 a5 a6 a7 a8 a9 a10 a11 a12 a13 a14
  clear b0 b1 b2 b3 b4 b5 b6 b7 b8 b9 b10 b11 b12 b13 b14 bz0 bz1 bz2 bz3 bz4 bz5 bz6 bz7 bz8 bz9 bz10 bz11 bz12 bz13 bz14
  clear c0 c1 c2 c3 c4 c5 c6 c7 c8 c9 c10 c11 c12 c13 c14
  clear hS5
  have lo : w.heap.size + 1 + 1 < S5.heap.size := blk_in O5.out
  refine (toWordS_any A n cap l _ (E5.out.mono K5.out.size) hn).mono ?_
  rintro e w6 ⟨rfl, hc⟩
  have hb := hc.bel
  have Z := Lib.hid hc.at
  have lz : S5.heap.size < w6.heap.size := hc.lt
  have lk := K5.out.size
  clear hc
  have Q6 := Lib.hid (blk_on hb Q5.out)
  have R6 := Lib.hid (blk_on hb R5.out)
  have O6 := Lib.hid (blk_on hb O5.out)
  have E6 := Lib.hid (E5.out.below (hb.mono K5.out.size))
  have K6 := Lib.hid (K5.out.trans (hb.mono K5.out.size))
  clear hb Q5 R5 O5 K5 E5
  clear E6
  obtain ⟨gz, hgz⟩ : ∃ x, S5.heap.size = x := ⟨_, rfl⟩
  rw [hgz] at Z lz lk lo ⊢
  clear hgz
  obtain ⟨⟨b0, b1, b2, b3, b4, b5, b6, b7, b8, b9, b10, b11, b12, b13, b14⟩, bz0, bz1, bz2, bz3, bz4, bz5, bz6, bz7, bz8, bz9, bz10, bz11, bz12, bz13, bz14⟩ := blk15 O6.out
  obtain ⟨S7, qS7⟩ : ∃ W, setAll w6 (w.heap.size + 1 + 1) 14 [.slice (some ⟨gz, 0, none⟩) n n] = W := ⟨_, rfl⟩
  have hS7 : (w6.setCell ⟨w.heap.size + 1 + 1, 14, none⟩ (.slice (some ⟨gz, 0, none⟩) n n)) = S7 := qS7
  have Q7 : Hid (S7.heap[w.heap.size]? = some (.cells #[.int .i64 st, .int .i64 sh, .int .i64 sd, .int .i64 sp, .int .i64 eu, .int .i64 es, .int .i64 eh, .int .i64 ea, .int .i64 en, .int .i64 fu, .int .i64 fs, .int .i64 fh, .int .i64 fa, .int .i64 fn, .slice A n cap] 61)) := by rw [← qS7]; exact setAll_away (by omega) _ _ Q6.out
  have R7 : Hid (S7.heap[w.heap.size + 1]? = some (.cells #[.int .i64 0, .int .i64 0, .int .i64 0, .int .i64 0, .int .i64 0, .int .i64 0, .int .i64 0, .int .i64 0, .int .i64 0, .int .i64 0, .int .i64 0, .int .i64 0, .int .i64 0, .int .i64 0, .slice none 0 0] 46)) := by rw [← qS7]; exact setAll_away (by omega) _ _ R6.out
  have O7 : Hid (S7.heap[w.heap.size + 1 + 1]? = some (.cells #[.int .i64 st, .int .i64 sh, .int .i64 sd, .int .i64 sp, .int .i64 eu, .int .i64 es, .int .i64 eh, .int .i64 ea, .int .i64 en, .int .i64 fu, .int .i64 fs, .int .i64 fh, .int .i64 fa, .int .i64 fn, .slice (some ⟨gz, 0, none⟩) n n] 46)) := by
    rw [← qS7]
    refine (setAll_blk (w := w6) (g := (w.heap.size + 1 + 1)) [.slice (some ⟨gz, 0, none⟩) n n] 14 O6.out).trans ?_
    refine congrArg (fun z => some (Obj.cells z 46 (0, 0))) (Array.toList_inj.1 ?_)
    rw [overA_toList _ _ _ (by simp)]
    rfl
  have K7 : Hid (Below w.heap.size w S7) := by rw [← qS7]; exact setAll_below (g := (w.heap.size + 1 + 1)) (by omega) [.slice (some ⟨gz, 0, none⟩) n n] 14 K6.out
  have zS7 : w6.heap.size = S7.heap.size := by rw [← qS7]; exact (setAll_size [.slice (some ⟨gz, 0, none⟩) n n] 14 _).symm
  clear qS7 Q6 R6 O6 K6
  have Z2 : Hid (CopyE S7 gz n l) := by rw [← hS7]; exact Z.out.heap (setAll_off (g := w.heap.size + 1 + 1) (by omega) [.slice (some ⟨gz, 0, none⟩) n n] 14) (Nat.le_of_eq (by rw [hS7]; exact zS7))
  have OF := O7
  have RF := R7
  go_wp2_with (first | (refine wpList_store_row rfl 46 _ _ rfl (w.heap.size + 1) #[.int .i64 st, .int .i64 sh, .int .i64 sd, .int .i64 sp, .int .i64 eu, .int .i64 es, .int .i64 eh, .int .i64 ea, .int .i64 en, .int .i64 fu, .int .i64 fs, .int .i64 fh, .int .i64 fa, .int .i64 fn, .slice (some ⟨gz, 0, none⟩) n n] rfl rfl 46 _ R7.out (by kernel_rfl) rfl (by simp [Value.oneCell']) ?_) | (refine wpList_load_row rfl 46 _ rfl (w.heap.size + 1 + 1) rfl 46 _ (0, 0) _ O7.out Try.underlying46 rfl (by kernel_rfl) ?_))
  exact row_ret (r := w.heap.size + 1) (cs := #[.int .i64 st, .int .i64 sh, .int .i64 sd, .int .i64 sp, .int .i64 eu, .int .i64 es, .int .i64 eh, .int .i64 ea, .int .i64 en, .int .i64 fu, .int .i64 fs, .int .i64 fh, .int .i64 fa, .int .i64 fn, .slice (some ⟨gz, 0, none⟩) n n]) rfl rfl (setRow_heap _ _ _ _ _ _ RF.out) Try.underlying46 rfl (by kernel_rfl) rfl ⟨gz, rfl, by omega, Z2.out.heap (setRow_other _ _ _ _ (by omega)) (Nat.le_of_eq (size_setRow _ _ _).symm), below_setRow K7.out (by omega) _⟩

set_option maxHeartbeats 4000000 in
theorem szSeat_any (s : SeatV) (A : Option Addr) (n cap : Nat) (l : List WordV) (left : Int) (w : World) (h' : EltsO w w.heap.size A n l) (hn : n ≤ 9223372036854775807) (hs : ∀ t ∈ l, t.t.size ≤ 9223372036854775807) (h0 : 0 ≤ left) (h1 : left ≤ 1048576) :
    Calls Try.prog 21 #[s.val A n cap, .int .i64 left] w (SzOutE n w) := by
  have h := Lib.hid h'
  clear h'
  obtain ⟨st, sh, sd, sp, ⟨⟨eu, es, eh, ea⟩, en⟩, ⟨⟨fu, fs, fh, fa⟩, fn⟩⟩ := s
  have HV : Hid (SeatV.val ⟨st, sh, sd, sp, ⟨⟨eu, es, eh, ea⟩, en⟩, ⟨⟨fu, fs, fh, fa⟩, fn⟩⟩ A n cap = .agg #[.int .i64 st, .int .i64 sh, .int .i64 sd, .int .i64 sp, .int .i64 eu, .int .i64 es, .int .i64 eh, .int .i64 ea, .int .i64 en, .int .i64 fu, .int .i64 fs, .int .i64 fh, .int .i64 fa, .int .i64 fn, .slice A n cap]) := rfl
  rw [HV.out]
  clear HV
  obtain ⟨W0, hW0⟩ : ∃ W, w.alloc (.cells #[.int .i64 st, .int .i64 sh, .int .i64 sd, .int .i64 sp, .int .i64 eu, .int .i64 es, .int .i64 eh, .int .i64 ea, .int .i64 en, .int .i64 fu, .int .i64 fs, .int .i64 fh, .int .i64 fa, .int .i64 fn, .slice A n cap] 61) = W := ⟨_, rfl⟩
  have K0 : Hid (Below w.heap.size w W0) := by rw [← hW0]; exact (Below.refl _ w).alloc (Nat.le_refl _) _
  have Q0 : Hid (W0.heap[w.heap.size]? = some (.cells #[.int .i64 st, .int .i64 sh, .int .i64 sd, .int .i64 sp, .int .i64 eu, .int .i64 es, .int .i64 eh, .int .i64 ea, .int .i64 en, .int .i64 fu, .int .i64 fs, .int .i64 fh, .int .i64 fa, .int .i64 fn, .slice A n cap] 61)) := by rw [← hW0]; exact heap1 w _
  obtain ⟨⟨a0, a1, a2, a3, a4, a5, a6, a7, a8, a9, a10, a11, a12, a13, a14⟩, _⟩ := blk15 Q0.out
  go_enter Try.func21, Try.ntmps21
  go_wp2_with fail
  clear a0 a1 a2 a3 a4 a5 a6 a7 a8 a9 a10 a11 a12 a13 a14
  clear hW0
  refine (szWordS_any A n cap l left _ (h.out.below K0.out |>.mono K0.out.size) hn hs h0 h1).mono ?_
  rintro e w1 ⟨L, rfl, hL1, hL2, hb⟩
  have Q1 := Lib.hid (blk_on hb Q0.out)
  have K1 := Lib.hid (K0.out.trans (hb.mono K0.out.size))
  clear hb Q0 K0
  by_cases hL : L < 0
  ·
    go_wp2_with fail
    go_ret
    first | exact ⟨-1, rfl, by omega, fun h => absurd h (by omega), K1.out⟩ | exact ⟨⟨-1, rfl, by omega, fun h => absurd h (by omega)⟩, K1.out⟩
  ·
    go_wp2_with fail
    go_ret
    first | exact ⟨L, rfl, hL1, hL2, K1.out⟩ | exact ⟨⟨L, rfl, hL1, hL2⟩, K1.out⟩

set_option maxHeartbeats 8000000 in
theorem eqSeat_same (s : SeatV) (A B : Option Addr) (n cap cb : Nat) (l : List WordV) (w : World) (hA' : EltsO w w.heap.size A n l) (hB' : EltsO w w.heap.size B n l) (hn : n ≤ 1048576) :
    Calls Try.prog 39 #[s.val A n cap, s.val B n cb] w fun e w' => e = .returned (.bool true) ∧ Below w.heap.size w w' := by
  have hA := Lib.hid hA'
  have hB := Lib.hid hB'
  clear hA' hB'
  obtain ⟨st, sh, sd, sp, ⟨⟨eu, es, eh, ea⟩, en⟩, ⟨⟨fu, fs, fh, fa⟩, fn⟩⟩ := s
  have HV1 : Hid (SeatV.val ⟨st, sh, sd, sp, ⟨⟨eu, es, eh, ea⟩, en⟩, ⟨⟨fu, fs, fh, fa⟩, fn⟩⟩ A n cap = .agg #[.int .i64 st, .int .i64 sh, .int .i64 sd, .int .i64 sp, .int .i64 eu, .int .i64 es, .int .i64 eh, .int .i64 ea, .int .i64 en, .int .i64 fu, .int .i64 fs, .int .i64 fh, .int .i64 fa, .int .i64 fn, .slice A n cap]) := rfl
  have HV2 : Hid (SeatV.val ⟨st, sh, sd, sp, ⟨⟨eu, es, eh, ea⟩, en⟩, ⟨⟨fu, fs, fh, fa⟩, fn⟩⟩ B n cb = .agg #[.int .i64 st, .int .i64 sh, .int .i64 sd, .int .i64 sp, .int .i64 eu, .int .i64 es, .int .i64 eh, .int .i64 ea, .int .i64 en, .int .i64 fu, .int .i64 fs, .int .i64 fh, .int .i64 fa, .int .i64 fn, .slice B n cb]) := rfl
  rw [HV1.out, HV2.out]
  clear HV1 HV2
  have cRe : Hid (∀ w' : World, Calls Try.prog 53 #[.agg #[.int .i64 eu, .int .i64 es, .int .i64 eh, .int .i64 ea, .int .i64 en], .agg #[.int .i64 eu, .int .i64 es, .int .i64 eh, .int .i64 ea, .int .i64 en]] w' fun e w'' => e = .returned (.bool true) ∧ Below w'.heap.size w' w'') := fun w' => by exact eqRow_same ⟨⟨eu, es, eh, ea⟩, en⟩ w'
  have cRf : Hid (∀ w' : World, Calls Try.prog 53 #[.agg #[.int .i64 fu, .int .i64 fs, .int .i64 fh, .int .i64 fa, .int .i64 fn], .agg #[.int .i64 fu, .int .i64 fs, .int .i64 fh, .int .i64 fa, .int .i64 fn]] w' fun e w'' => e = .returned (.bool true) ∧ Below w'.heap.size w' w'') := fun w' => by exact eqRow_same ⟨⟨fu, fs, fh, fa⟩, fn⟩ w'
  obtain ⟨W0, hW0⟩ : ∃ W, (w.alloc (.cells #[.int .i64 st, .int .i64 sh, .int .i64 sd, .int .i64 sp, .int .i64 eu, .int .i64 es, .int .i64 eh, .int .i64 ea, .int .i64 en, .int .i64 fu, .int .i64 fs, .int .i64 fh, .int .i64 fa, .int .i64 fn, .slice A n cap] 46)).alloc (.cells #[.int .i64 st, .int .i64 sh, .int .i64 sd, .int .i64 sp, .int .i64 eu, .int .i64 es, .int .i64 eh, .int .i64 ea, .int .i64 en, .int .i64 fu, .int .i64 fs, .int .i64 fh, .int .i64 fa, .int .i64 fn, .slice B n cb] 46) = W := ⟨_, rfl⟩
  have K0 : Hid (Below w.heap.size w W0) := by rw [← hW0]; exact ((Below.refl _ w).alloc (Nat.le_refl _) _).alloc (by simp; try omega) _
  have P0 : Hid (W0.heap[w.heap.size]? = some (.cells #[.int .i64 st, .int .i64 sh, .int .i64 sd, .int .i64 sp, .int .i64 eu, .int .i64 es, .int .i64 eh, .int .i64 ea, .int .i64 en, .int .i64 fu, .int .i64 fs, .int .i64 fh, .int .i64 fa, .int .i64 fn, .slice A n cap] 46)) := by rw [← hW0]; exact heap2a w _ _
  have Q0 : Hid (W0.heap[w.heap.size + 1]? = some (.cells #[.int .i64 st, .int .i64 sh, .int .i64 sd, .int .i64 sp, .int .i64 eu, .int .i64 es, .int .i64 eh, .int .i64 ea, .int .i64 en, .int .i64 fu, .int .i64 fs, .int .i64 fh, .int .i64 fa, .int .i64 fn, .slice B n cb] 46)) := by rw [← hW0]; exact heap2b w _ _
  obtain ⟨⟨a0, a1, a2, a3, a4, a5, a6, a7, a8, a9, a10, a11, a12, a13, a14⟩, _⟩ := blk15 P0.out
  obtain ⟨⟨b0, b1, b2, b3, b4, b5, b6, b7, b8, b9, b10, b11, b12, b13, b14⟩, _⟩ := blk15 Q0.out
  go_enter Try.func39, Try.ntmps39
  go_wp2_with fail
  clear a0 a1 a2 a3 a4 a5 a6 a7 a8 a9 a10 a11 a12 a13 a14
  clear b0 b1 b2 b3 b4 b5 b6 b7 b8 b9 b10 b11 b12 b13 b14
  clear hW0
  refine (cRe.out _).mono ?_
  rintro e w1 ⟨rfl, hb⟩
  have P1 := Lib.hid (blk_on hb P0.out)
  have Q1 := Lib.hid (blk_on hb Q0.out)
  have K1 := Lib.hid (K0.out.trans (hb.mono K0.out.size))
  clear hb P0 Q0 K0
  obtain ⟨⟨a0, a1, a2, a3, a4, a5, a6, a7, a8, a9, a10, a11, a12, a13, a14⟩, _⟩ := blk15 P1.out
  obtain ⟨⟨b0, b1, b2, b3, b4, b5, b6, b7, b8, b9, b10, b11, b12, b13, b14⟩, _⟩ := blk15 Q1.out
  go_wp2_with fail
  clear a0 a1 a2 a3 a4 a5 a6 a7 a8 a9 a10 a11 a12 a13 a14
  clear b0 b1 b2 b3 b4 b5 b6 b7 b8 b9 b10 b11 b12 b13 b14
  refine (cRf.out _).mono ?_
  rintro e w2 ⟨rfl, hb⟩
  have P2 := Lib.hid (blk_on hb P1.out)
  have Q2 := Lib.hid (blk_on hb Q1.out)
  have K2 := Lib.hid (K1.out.trans (hb.mono K1.out.size))
  clear hb P1 Q1 K1
  obtain ⟨⟨a0, a1, a2, a3, a4, a5, a6, a7, a8, a9, a10, a11, a12, a13, a14⟩, _⟩ := blk15 P2.out
  obtain ⟨⟨b0, b1, b2, b3, b4, b5, b6, b7, b8, b9, b10, b11, b12, b13, b14⟩, _⟩ := blk15 Q2.out
  go_wp2_with fail
  clear a0 a1 a2 a3 a4 a5 a6 a7 a8 a9 a10 a11 a12 a13 a14
  clear b0 b1 b2 b3 b4 b5 b6 b7 b8 b9 b10 b11 b12 b13 b14
  refine (eqWordS_same A B n cap cb l _ ((hA.out.below K2.out).mono K2.out.size) ((hB.out.below K2.out).mono K2.out.size) hn).mono ?_
  rintro e w3 ⟨rfl, hb⟩
  have P3 := Lib.hid (blk_on hb P2.out)
  have Q3 := Lib.hid (blk_on hb Q2.out)
  have K3 := Lib.hid (K2.out.trans (hb.mono K2.out.size))
  clear hb P2 Q2 K2
  go_wp2
  go_ret
  exact ⟨rfl, K3.out⟩

end Go.Proofs.Ytioogmeghmeelaa.Tx

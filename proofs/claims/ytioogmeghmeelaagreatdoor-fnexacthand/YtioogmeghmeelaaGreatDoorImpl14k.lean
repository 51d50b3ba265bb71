/-
  What copied of the program makes of a seat: its log is the call's own. Condition: at most 1048576 words.
-/
import Derived.Test.YtioogmeghmeelaaGreatDoorImpl14o
import Derived.Test.YtioogmeghmeelaaGreatDoorSeat4
import Derived.Test.YtioogmeghmeelaaGreatDoorHears
namespace Go.Proofs.YtioogmeghmeelaaGreatDoor.Tx
open Go.RowKit

set_option maxRecDepth 100000 in
set_option maxHeartbeats 16000000 in
theorem copiedList_any (A : Option Addr) (n cap : Nat) (l : List WordV) (w : World) (h : EltsO w w.heap.size A n l) (hzc : A = none → cap = 0) (hn : n ≤ 1048576) :
    Calls Tryz.prog 74 #[.slice A n cap] w fun e w' => ∃ g cb, e = .returned (.slice (some ⟨g, 0, none⟩) n cb) ∧ MadeE w' w.heap.size 82 l g cb ∧ Below w.heap.size w w' := by
  obtain ⟨i0, by0, hi, hz0, hz1, hz2, hby⟩ := infoWordE
  have E := Lib.hid h
  have hz := Lib.hid hzc
  clear h hzc
  obtain ⟨W0, hW0⟩ : ∃ W, w.alloc (.cells #[] 82) = W := ⟨_, rfl⟩
  have K0 : Hid (Below w.heap.size w W0) := by rw [← hW0]; exact (Below.refl _ w).alloc (Nat.le_refl _) _
  have N0 : Hid (W0.heap[w.heap.size]? = some (.cells #[] 82)) := by rw [← hW0]; exact heap1 w _
  have E1 := Lib.hid (E.out.below K0.out)
  have hlt : w.heap.size < W0.heap.size := blk_in N0.out
  go_enter Tryz.func74, Tryz.ntmps74
  rcases A with _ | ad
  · have hn0 : n = 0 := by
      rcases Nat.eq_zero_or_pos n with h | h
      · exact h
      · obtain ⟨_, _, e, _⟩ := E.out.2 h; cases e
    subst hn0
    obtain rfl : l = [] := List.length_eq_zero_iff.1 E.out.1
    obtain rfl : cap = 0 := hz.out rfl
    have M0 : Hid (MadeE W0 w.heap.size 82 ([] : List WordV) w.heap.size 0) := madeG_nil N0.out (Nat.le_refl _)
    have hap := run_append_owned_none W0 w.heap.size 121 121 82 i0 2 Tryz.underlying121 hi _ 0 [] M0.out.own
    go_wp2
    go_ret
    exact ⟨w.heap.size, 0, rfl, M0.out, K0.out⟩
  · go_wp2_with (at_builtin; refine wpList_append_own _ rfl _ _ 121 rfl w.heap.size 82 i0 WordV.zero.val 2 by0 Tryz.underlying121 hi hz0 hz1 hz2 rfl (by decide) _ 0 [] rfl (madeG_nil N0.out (Nat.le_refl _)).own ad n cap (l.flatMap Cells.cells) rfl (by rw [flat_len, E.out.1]; rfl) (E1.out.cells (by omega)) flat_one (by unfold maxLen; omega) (Nat.le_trans (Nat.mul_le_mul (by omega : 0 + n ≤ 1048576) hby) (by decide)) (by omega) ?_; intro v' w3 hown' hgrow hiff; have h9 := made_app (l := ([] : List WordV)) (l2 := l) (n := 0) (m := n) (gb := w.heap.size) (cb := 0) hown' rfl E.out.1.symm hiff; obtain ⟨gb', cb', rfl, hM'⟩ := h9; have HM' : Hid (MadeE w3 w.heap.size 82 l gb' cb') := hM'; have HGR := Lib.hid hgrow; clear hown' hgrow hM' hiff)
    have hln : l.length = n := E.out.1
    try rw [List.nil_append]
    try simp only [hln]
    go_ret
    exact ⟨gb', cb', rfl, HM'.out, below_off K0.out HGR.out ⟨Nat.le_refl _, by omega⟩⟩

theorem EltsO.oncopy {α : Type} [Cells α] {w w' : World} {B n : Nat} {A : Option Addr} {l : List α} (h : EltsO w B A n l) (k : Below B w w') (hs : B ≤ w'.heap.size) : EltsO w' w'.heap.size A n l := (h.below k).mono hs

set_option maxRecDepth 100000 in
set_option maxHeartbeats 16000000 in
theorem copied_any (s : SeatV) (A : Option Addr) (n cap : Nat) (l : List WordV) (w : World) (h : EltsO w w.heap.size A n l) (hzc : A = none → cap = 0) (hn : n ≤ 1048576) :
    Calls Tryz.prog 47 #[s.val A n cap] w fun e w' => ∃ g cb, e = .returned (s.val (some ⟨g, 0, none⟩) n cb) ∧ MadeE w' w.heap.size 82 l g cb ∧ Below w.heap.size w w' := by
  have E := Lib.hid h
  have cL := Lib.hid fun (w' : World) (h' : EltsO w' w'.heap.size A n l) => copiedList_any A n cap l w' h' hzc hn
  clear h hzc
  obtain ⟨st, sh, sd, sp, ⟨⟨eu, es, eh, ea⟩, en⟩, ⟨⟨fu, fs, fh, fa⟩, fn⟩⟩ := s
  have HV : Hid (SeatV.val ⟨st, sh, sd, sp, ⟨⟨eu, es, eh, ea⟩, en⟩, ⟨⟨fu, fs, fh, fa⟩, fn⟩⟩ A n cap = .agg #[.int .i64 st, .int .i64 sh, .int .i64 sd, .int .i64 sp, .int .i64 eu, .int .i64 es, .int .i64 eh, .int .i64 ea, .int .i64 en, .int .i64 fu, .int .i64 fs, .int .i64 fh, .int .i64 fa, .int .i64 fn, .slice A n cap]) := rfl
  rw [HV.out]
  clear HV
  obtain ⟨W0, hW0⟩ : ∃ W, (w.alloc (.cells #[.int .i64 st, .int .i64 sh, .int .i64 sd, .int .i64 sp, .int .i64 eu, .int .i64 es, .int .i64 eh, .int .i64 ea, .int .i64 en, .int .i64 fu, .int .i64 fs, .int .i64 fh, .int .i64 fa, .int .i64 fn, .slice A n cap] 57)).alloc (.cells #[.int .i64 0, .int .i64 0, .int .i64 0, .int .i64 0, .int .i64 0, .int .i64 0, .int .i64 0, .int .i64 0, .int .i64 0, .int .i64 0, .int .i64 0, .int .i64 0, .int .i64 0, .int .i64 0, .slice none 0 0] 57) = W := ⟨_, rfl⟩
  have K0 : Hid (Below w.heap.size w W0) := by rw [← hW0]; exact ((Below.refl _ w).alloc (Nat.le_refl _) _).alloc (by simp; try omega) _
  have Y0 : Hid (W0.heap[w.heap.size]? = some (.cells #[.int .i64 st, .int .i64 sh, .int .i64 sd, .int .i64 sp, .int .i64 eu, .int .i64 es, .int .i64 eh, .int .i64 ea, .int .i64 en, .int .i64 fu, .int .i64 fs, .int .i64 fh, .int .i64 fa, .int .i64 fn, .slice A n cap] 57)) := by rw [← hW0]; exact heap2a w _ _
  have R0 : Hid (W0.heap[w.heap.size + 1]? = some (.cells #[.int .i64 0, .int .i64 0, .int .i64 0, .int .i64 0, .int .i64 0, .int .i64 0, .int .i64 0, .int .i64 0, .int .i64 0, .int .i64 0, .int .i64 0, .int .i64 0, .int .i64 0, .int .i64 0, .slice none 0 0] 57)) := by rw [← hW0]; exact heap2b w _ _
  have zW0 : W0.heap.size = w.heap.size + 2 := by rw [← hW0]; simp
  go_enter Tryz.func47, Tryz.ntmps47
  obtain ⟨⟨a0, a1, a2, a3, a4, a5, a6, a7, a8, a9, a10, a11, a12, a13, a14⟩, _⟩ := blk15 Y0.out
  go_wp2_with fail
  clear a0 a1 a2 a3 a4 a5 a6 a7 a8 a9 a10 a11 a12 a13 a14
  clear hW0
  refine (cL.out _ (E.out.oncopy K0.out K0.out.size)).mono ?_
  rintro e w1 ⟨g, cb, rfl, hM, hb⟩
  have M0 := Lib.hid (hM.mono K0.out.size)
  have hgb := hM.base
  have hsw := hb.size
  clear hM
  have Y1 := Lib.hid (blk_on hb Y0.out)
  have R1 := Lib.hid (blk_on hb R0.out)
  have K1 := Lib.hid (K0.out.trans (hb.mono K0.out.size))
  clear hb Y0 R0 K0
  obtain ⟨⟨b0, b1, b2, b3, b4, b5, b6, b7, b8, b9, b10, b11, b12, b13, b14⟩, bz0, bz1, bz2, bz3, bz4, bz5, bz6, bz7, bz8, bz9, bz10, bz11, bz12, bz13, bz14⟩ := blk15 Y1.out
  obtain ⟨S2, qS2⟩ : ∃ W, setAll w1 w.heap.size 14 [.slice (some ⟨g, 0, none⟩) n cb] = W := ⟨_, rfl⟩
  have hS2 : (w1.setCell ⟨w.heap.size, 14, none⟩ (.slice (some ⟨g, 0, none⟩) n cb)) = S2 := qS2
  have Y2 : Hid (S2.heap[w.heap.size]? = some (.cells #[.int .i64 st, .int .i64 sh, .int .i64 sd, .int .i64 sp, .int .i64 eu, .int .i64 es, .int .i64 eh, .int .i64 ea, .int .i64 en, .int .i64 fu, .int .i64 fs, .int .i64 fh, .int .i64 fa, .int .i64 fn, .slice (some ⟨g, 0, none⟩) n cb] 57)) := by
    rw [← qS2]
    refine (setAll_blk (w := w1) (g := w.heap.size) [.slice (some ⟨g, 0, none⟩) n cb] 14 Y1.out).trans ?_
    refine congrArg (fun z => some (Obj.cells z 57 (0, 0))) (Array.toList_inj.1 ?_)
    rw [overA_toList _ _ _ (by simp)]
    rfl
  have R2 : Hid (S2.heap[w.heap.size + 1]? = some (.cells #[.int .i64 0, .int .i64 0, .int .i64 0, .int .i64 0, .int .i64 0, .int .i64 0, .int .i64 0, .int .i64 0, .int .i64 0, .int .i64 0, .int .i64 0, .int .i64 0, .int .i64 0, .int .i64 0, .slice none 0 0] 57)) := by rw [← qS2]; exact setAll_away (by omega) _ _ R1.out
  have K2 : Hid (Below w.heap.size w S2) := by rw [← qS2]; exact setAll_below (g := w.heap.size) (by omega) [.slice (some ⟨g, 0, none⟩) n cb] 14 K1.out
  have zS2 : w1.heap.size = S2.heap.size := by rw [← qS2]; exact (setAll_size [.slice (some ⟨g, 0, none⟩) n cb] 14 _).symm
  clear qS2 Y1 R1 K1
  have MF : Hid (MadeE S2 w.heap.size 82 l g cb) := by
    rw [← hS2]
    exact M0.out.heap (setAll_off (g := w.heap.size) (by omega) [.slice (some ⟨g, 0, none⟩) n cb] 14)
  go_upto_region 2 with fail
  try rw [hS2]
  clear b0 b1 b2 b3 b4 b5 b6 b7 b8 b9 b10 b11 b12 b13 b14 bz0 bz1 bz2 bz3 bz4 bz5 bz6 bz7 bz8 bz9 bz10 bz11 bz12 bz13 bz14
  clear hS2
  go_wp2_with (first | (refine wpList_load_row rfl 57 _ rfl (w.heap.size) rfl 57 _ (0, 0) _ Y2.out Tryz.underlying57 rfl (by kernel_rfl) ?_) | (refine wpList_store_row rfl 57 _ _ rfl (w.heap.size + 1) #[.int .i64 st, .int .i64 sh, .int .i64 sd, .int .i64 sp, .int .i64 eu, .int .i64 es, .int .i64 eh, .int .i64 ea, .int .i64 en, .int .i64 fu, .int .i64 fs, .int .i64 fh, .int .i64 fa, .int .i64 fn, .slice (some ⟨g, 0, none⟩) n cb] rfl rfl 57 _ R2.out (by kernel_rfl) rfl (by simp [Value.oneCell']) ?_))
  exact row_ret (r := w.heap.size + 1) (cs := #[.int .i64 st, .int .i64 sh, .int .i64 sd, .int .i64 sp, .int .i64 eu, .int .i64 es, .int .i64 eh, .int .i64 ea, .int .i64 en, .int .i64 fu, .int .i64 fs, .int .i64 fh, .int .i64 fa, .int .i64 fn, .slice (some ⟨g, 0, none⟩) n cb]) rfl rfl (setRow_heap _ _ _ _ _ _ R2.out) Tryz.underlying57 rfl (by kernel_rfl) rfl ⟨g, cb, rfl, MF.out.heap (setRow_other _ _ _ _ (by omega)), below_setRow K2.out (by omega) _⟩

end Go.Proofs.YtioogmeghmeelaaGreatDoor.Tx

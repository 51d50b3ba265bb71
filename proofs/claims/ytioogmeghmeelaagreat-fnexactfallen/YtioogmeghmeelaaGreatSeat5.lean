/-
  What l14Copy of the model answers. Condition: at most 1048576 words.
-/
import Derived.Test.YtioogmeghmeelaaGreatSeat4
namespace Go.Proofs.YtioogmeghmeelaaGreat.Tx
open Go.RowKit

theorem EltsO.cells {α : Type} [Cells α] {w : World} {B n : Nat} {ad : Addr} {l : List α} (h : EltsO w B (some ad) n l) (hB : B ≤ w.heap.size) : ∀ j u, (l.flatMap Cells.cells)[j]? = some u → w.cell? (ad.add j) = some u := by
  rcases Nat.eq_zero_or_pos n with h0 | h0
  · have : l = [] := List.length_eq_zero_iff.1 (h.1.trans h0)
    subst this
    intro j u hu
    simp at hu
  · obtain ⟨b, off, e, hb, hc⟩ := h.2 h0
    obtain rfl := Option.some.inj e
    exact (show Lies w b off l from ⟨by omega, hc⟩).cells

set_option maxRecDepth 100000 in
set_option maxHeartbeats 8000000 in
theorem l14Copy_any (s : SeatV) (A : Option Addr) (n cap : Nat) (l : List WordV) (w : World) (h : EltsO w w.heap.size A n l) (hzc : A = none → cap = 0) (hn : n ≤ 1048576) :
    Calls Tryz.prog 34 #[s.val A n cap] w fun e w' => ∃ g cb, e = .returned (s.val (some ⟨g, 0, none⟩) n cb) ∧ MadeE w' w.heap.size 107 l g cb ∧ Below w.heap.size w w' := by
  obtain ⟨i0, by0, hi, hz0, hz1, hz2, hby⟩ := infoWordE
  have E := Lib.hid h
  have hz := Lib.hid hzc
  clear h hzc
  obtain ⟨st, sh, sd, sp, ⟨⟨eu, es, eh, ea⟩, en⟩, ⟨⟨fu, fs, fh, fa⟩, fn⟩⟩ := s
  have HV : Hid (SeatV.val ⟨st, sh, sd, sp, ⟨⟨eu, es, eh, ea⟩, en⟩, ⟨⟨fu, fs, fh, fa⟩, fn⟩⟩ A n cap = .agg #[.int .i64 st, .int .i64 sh, .int .i64 sd, .int .i64 sp, .int .i64 eu, .int .i64 es, .int .i64 eh, .int .i64 ea, .int .i64 en, .int .i64 fu, .int .i64 fs, .int .i64 fh, .int .i64 fa, .int .i64 fn, .slice A n cap]) := rfl
  rw [HV.out]
  clear HV
  obtain ⟨W0, hW0⟩ : ∃ W, ((w.alloc (.cells #[.int .i64 st, .int .i64 sh, .int .i64 sd, .int .i64 sp, .int .i64 eu, .int .i64 es, .int .i64 eh, .int .i64 ea, .int .i64 en, .int .i64 fu, .int .i64 fs, .int .i64 fh, .int .i64 fa, .int .i64 fn, .slice A n cap] 68)).alloc (.cells #[.int .i64 0, .int .i64 0, .int .i64 0, .int .i64 0, .int .i64 0, .int .i64 0, .int .i64 0, .int .i64 0, .int .i64 0, .int .i64 0, .int .i64 0, .int .i64 0, .int .i64 0, .int .i64 0, .slice none 0 0] 68)).alloc (.cells #[] 107) = W := ⟨_, rfl⟩
  have K0 : Hid (Below w.heap.size w W0) := by rw [← hW0]; exact (((Below.refl _ w).alloc (Nat.le_refl _) _).alloc (by simp; try omega) _).alloc (by simp; try omega) _
  have Y0 : Hid (W0.heap[w.heap.size]? = some (.cells #[.int .i64 st, .int .i64 sh, .int .i64 sd, .int .i64 sp, .int .i64 eu, .int .i64 es, .int .i64 eh, .int .i64 ea, .int .i64 en, .int .i64 fu, .int .i64 fs, .int .i64 fh, .int .i64 fa, .int .i64 fn, .slice A n cap] 68)) := by rw [← hW0]; exact heap3a w _ _ _
  have R0 : Hid (W0.heap[w.heap.size + 1]? = some (.cells #[.int .i64 0, .int .i64 0, .int .i64 0, .int .i64 0, .int .i64 0, .int .i64 0, .int .i64 0, .int .i64 0, .int .i64 0, .int .i64 0, .int .i64 0, .int .i64 0, .int .i64 0, .int .i64 0, .slice none 0 0] 68)) := by rw [← hW0]; exact heap3b w _ _ _
  have N0 : Hid (W0.heap[w.heap.size + 1 + 1]? = some (.cells #[] 107)) := by rw [← hW0]; exact heap3c w _ _ _
  go_enter Tryz.func34, Tryz.ntmps34
  have E1 := Lib.hid (E.out.below K0.out)
  have zV : W0.heap.size = w.heap.size + 3 := by rw [← hW0]; simp
  replace N0 : Hid (W0.heap[w.heap.size + 2]? = some (.cells #[] 107)) := N0
  obtain ⟨⟨a0, a1, a2, a3, a4, a5, a6, a7, a8, a9, a10, a11, a12, a13, a14⟩, az0, az1, az2, az3, az4, az5, az6, az7, az8, az9, az10, az11, az12, az13, az14⟩ := blk15 Y0.out
  rcases A with _ | ad
  ·
    have hn0 : n = 0 := by
      rcases Nat.eq_zero_or_pos n with h | h
      · exact h
      · obtain ⟨_, _, e, _⟩ := E.out.2 h; cases e
    subst hn0
    obtain rfl : l = [] := List.length_eq_zero_iff.1 E.out.1
    obtain rfl : cap = 0 := hz.out rfl
    have M0 : Hid (MadeE W0 (w.heap.size + 2) 107 ([] : List WordV) (w.heap.size + 2) 0) := madeG_nil N0.out (Nat.le_refl _)
    have hap := run_append_owned_none W0 (w.heap.size + 2) 66 66 107 i0 2 Tryz.underlying66 hi _ 0 [] M0.out.own
    go_upto_region 2 with fail
    clear hW0 hap
    clear a0 a1 a2 a3 a4 a5 a6 a7 a8 a9 a10 a11 a12 a13 a14 az0 az1 az2 az3 az4 az5 az6 az7 az8 az9 az10 az11 az12 az13 az14
    obtain ⟨w3, hw3⟩ : ∃ x, W0 = x := ⟨_, rfl⟩
    have gr : W0.grownBy w3 (some (w.heap.size + 2)) := by rw [← hw3]; exact only_refl _ _
    rw [hw3] at M0
    have hsw : W0.heap.size = w3.heap.size := by rw [hw3]
    try rw [hw3]
    clear hw3
    have Y1 : Hid (w3.heap[w.heap.size]? = some (.cells #[.int .i64 st, .int .i64 sh, .int .i64 sd, .int .i64 sp, .int .i64 eu, .int .i64 es, .int .i64 eh, .int .i64 ea, .int .i64 en, .int .i64 fu, .int .i64 fs, .int .i64 fh, .int .i64 fa, .int .i64 fn, .slice none 0 0] 68)) := blk_off gr Y0.out (show w.heap.size ≠ w.heap.size + 2 by omega)
    have R1 : Hid (w3.heap[w.heap.size + 1]? = some (.cells #[.int .i64 0, .int .i64 0, .int .i64 0, .int .i64 0, .int .i64 0, .int .i64 0, .int .i64 0, .int .i64 0, .int .i64 0, .int .i64 0, .int .i64 0, .int .i64 0, .int .i64 0, .int .i64 0, .slice none 0 0] 68)) := blk_off gr R0.out (show w.heap.size + 1 ≠ w.heap.size + 2 by omega)
    have K1 : Hid (Below w.heap.size w w3) := below_off K0.out gr (show w.heap.size ≤ w.heap.size + 2 ∧ w.heap.size ≤ W0.heap.size by omega)
    clear Y0 R0 K0 N0
    obtain ⟨S1, qS1⟩ : ∃ W, setAll w3 w.heap.size 14 [.slice (some ⟨w.heap.size + 2, 0, none⟩) 0 0] = W := ⟨_, rfl⟩
    have hS1 : (w3.setCell ⟨w.heap.size, 14, none⟩ (.slice (some ⟨w.heap.size + 2, 0, none⟩) 0 0)) = S1 := qS1
    have Y2 : Hid (S1.heap[w.heap.size]? = some (.cells #[.int .i64 st, .int .i64 sh, .int .i64 sd, .int .i64 sp, .int .i64 eu, .int .i64 es, .int .i64 eh, .int .i64 ea, .int .i64 en, .int .i64 fu, .int .i64 fs, .int .i64 fh, .int .i64 fa, .int .i64 fn, .slice (some ⟨w.heap.size + 2, 0, none⟩) 0 0] 68)) := by
      rw [← qS1]
      refine (setAll_blk (w := w3) (g := w.heap.size) [.slice (some ⟨w.heap.size + 2, 0, none⟩) 0 0] 14 Y1.out).trans ?_
      refine congrArg (fun z => some (Obj.cells z 68 (0, 0))) (Array.toList_inj.1 ?_)
      rw [overA_toList _ _ _ (by simp)]
      rfl
    have R2 : Hid (S1.heap[w.heap.size + 1]? = some (.cells #[.int .i64 0, .int .i64 0, .int .i64 0, .int .i64 0, .int .i64 0, .int .i64 0, .int .i64 0, .int .i64 0, .int .i64 0, .int .i64 0, .int .i64 0, .int .i64 0, .int .i64 0, .int .i64 0, .slice none 0 0] 68)) := by rw [← qS1]; exact setAll_away (by omega) _ _ R1.out
    have K2 : Hid (Below w.heap.size w S1) := by rw [← qS1]; exact setAll_below (g := w.heap.size) (by omega) [.slice (some ⟨w.heap.size + 2, 0, none⟩) 0 0] 14 K1.out
    have zS1 : w3.heap.size = S1.heap.size := by rw [← qS1]; exact (setAll_size [.slice (some ⟨w.heap.size + 2, 0, none⟩) 0 0] 14 _).symm
    clear qS1 Y1 R1 K1
    have MF : Hid (MadeE S1 (w.heap.size + 2) 107 ([] : List WordV) (w.heap.size + 2) 0) := by
      rw [← hS1]
      exact M0.out.heap (setAll_off (g := w.heap.size) (by have := M0.out.base; omega) [.slice (some ⟨w.heap.size + 2, 0, none⟩) 0 0] 14)
    try rw [hS1]
    clear hS1
    go_wp2_with (first | (refine wpList_load_row rfl 68 _ rfl (w.heap.size) rfl 68 _ (0, 0) _ Y2.out Tryz.underlying68 rfl (by kernel_rfl) ?_) | (refine wpList_store_row rfl 68 _ _ rfl (w.heap.size + 1) #[.int .i64 st, .int .i64 sh, .int .i64 sd, .int .i64 sp, .int .i64 eu, .int .i64 es, .int .i64 eh, .int .i64 ea, .int .i64 en, .int .i64 fu, .int .i64 fs, .int .i64 fh, .int .i64 fa, .int .i64 fn, .slice (some ⟨w.heap.size + 2, 0, none⟩) 0 0] rfl rfl 68 _ R2.out (by kernel_rfl) rfl (by simp [Value.oneCell']) ?_))
    exact row_ret (r := w.heap.size + 1) (cs := #[.int .i64 st, .int .i64 sh, .int .i64 sd, .int .i64 sp, .int .i64 eu, .int .i64 es, .int .i64 eh, .int .i64 ea, .int .i64 en, .int .i64 fu, .int .i64 fs, .int .i64 fh, .int .i64 fa, .int .i64 fn, .slice (some ⟨w.heap.size + 2, 0, none⟩) 0 0]) rfl rfl (setRow_heap _ _ _ _ _ _ R2.out) Tryz.underlying68 rfl (by kernel_rfl) rfl ⟨w.heap.size + 2, 0, rfl, (MF.out.heap (setRow_other _ _ _ _ (by omega))).mono (by omega), below_setRow K2.out (by omega) _⟩
  ·
    go_upto_region 2 with (at_builtin; refine wpList_append_own _ rfl _ _ 66 rfl (w.heap.size + 2) 107 i0 WordV.zero.val 2 by0 Tryz.underlying66 hi hz0 hz1 hz2 rfl (by decide) _ 0 [] rfl (madeG_nil N0.out (Nat.le_refl _)).own ad n cap (l.flatMap Cells.cells) rfl (by rw [flat_len, E.out.1]; rfl) (E1.out.cells (by omega)) flat_one (by unfold maxLen; omega) (Nat.le_trans (Nat.mul_le_mul (by omega : 0 + n ≤ 1048576) hby) (by decide)) (by omega) ?_; intro v' w3 hown' hgrow hiff; have h9 := made_app (l := ([] : List WordV)) (l2 := l) (n := 0) (m := n) (gb := w.heap.size + 2) (cb := 0) hown' rfl E.out.1.symm hiff; obtain ⟨gb', cb', rfl, hM'⟩ := h9; have HM' : Hid (MadeE w3 (w.heap.size + 2) 107 l gb' cb') := hM'; have HGR := Lib.hid hgrow; clear hown' hgrow hM' hiff; have Y9 : Hid (w3.heap[w.heap.size]? = some (.cells #[.int .i64 st, .int .i64 sh, .int .i64 sd, .int .i64 sp, .int .i64 eu, .int .i64 es, .int .i64 eh, .int .i64 ea, .int .i64 en, .int .i64 fu, .int .i64 fs, .int .i64 fh, .int .i64 fa, .int .i64 fn, .slice (some ad) n cap] 68)) := blk_off HGR.out Y0.out (show w.heap.size ≠ w.heap.size + 2 by omega); obtain ⟨⟨b0, b1, b2, b3, b4, b5, b6, b7, b8, b9, b10, b11, b12, b13, b14⟩, bz0, bz1, bz2, bz3, bz4, bz5, bz6, bz7, bz8, bz9, bz10, bz11, bz12, bz13, bz14⟩ := blk15 Y9.out)
    clear hW0
    clear a0 a1 a2 a3 a4 a5 a6 a7 a8 a9 a10 a11 a12 a13 a14 az0 az1 az2 az3 az4 az5 az6 az7 az8 az9 az10 az11 az12 az13 az14
    clear b0 b1 b2 b3 b4 b5 b6 b7 b8 b9 b10 b11 b12 b13 b14 bz0 bz1 bz2 bz3 bz4 bz5 bz6 bz7 bz8 bz9 bz10 bz11 bz12 bz13 bz14
    have hln : l.length = n := E.out.1
    try rw [List.nil_append]
    try simp only [hln]
    have Y1 : Hid (w3.heap[w.heap.size]? = some (.cells #[.int .i64 st, .int .i64 sh, .int .i64 sd, .int .i64 sp, .int .i64 eu, .int .i64 es, .int .i64 eh, .int .i64 ea, .int .i64 en, .int .i64 fu, .int .i64 fs, .int .i64 fh, .int .i64 fa, .int .i64 fn, .slice (some ad) n cap] 68)) := blk_off HGR.out Y0.out (show w.heap.size ≠ w.heap.size + 2 by omega)
    have R1 : Hid (w3.heap[w.heap.size + 1]? = some (.cells #[.int .i64 0, .int .i64 0, .int .i64 0, .int .i64 0, .int .i64 0, .int .i64 0, .int .i64 0, .int .i64 0, .int .i64 0, .int .i64 0, .int .i64 0, .int .i64 0, .int .i64 0, .int .i64 0, .slice none 0 0] 68)) := blk_off HGR.out R0.out (show w.heap.size + 1 ≠ w.heap.size + 2 by omega)
    have K1 : Hid (Below w.heap.size w w3) := below_off K0.out HGR.out (show w.heap.size ≤ w.heap.size + 2 ∧ w.heap.size ≤ W0.heap.size by omega)
    clear Y0 R0 K0 N0
    obtain ⟨S1, qS1⟩ : ∃ W, setAll w3 w.heap.size 14 [.slice (some ⟨gb', 0, none⟩) n cb'] = W := ⟨_, rfl⟩
    have hS1 : (w3.setCell ⟨w.heap.size, 14, none⟩ (.slice (some ⟨gb', 0, none⟩) n cb')) = S1 := qS1
    have Y2 : Hid (S1.heap[w.heap.size]? = some (.cells #[.int .i64 st, .int .i64 sh, .int .i64 sd, .int .i64 sp, .int .i64 eu, .int .i64 es, .int .i64 eh, .int .i64 ea, .int .i64 en, .int .i64 fu, .int .i64 fs, .int .i64 fh, .int .i64 fa, .int .i64 fn, .slice (some ⟨gb', 0, none⟩) n cb'] 68)) := by
      rw [← qS1]
      refine (setAll_blk (w := w3) (g := w.heap.size) [.slice (some ⟨gb', 0, none⟩) n cb'] 14 Y1.out).trans ?_
      refine congrArg (fun z => some (Obj.cells z 68 (0, 0))) (Array.toList_inj.1 ?_)
      rw [overA_toList _ _ _ (by simp)]
      rfl
    have R2 : Hid (S1.heap[w.heap.size + 1]? = some (.cells #[.int .i64 0, .int .i64 0, .int .i64 0, .int .i64 0, .int .i64 0, .int .i64 0, .int .i64 0, .int .i64 0, .int .i64 0, .int .i64 0, .int .i64 0, .int .i64 0, .int .i64 0, .int .i64 0, .slice none 0 0] 68)) := by rw [← qS1]; exact setAll_away (by omega) _ _ R1.out
    have K2 : Hid (Below w.heap.size w S1) := by rw [← qS1]; exact setAll_below (g := w.heap.size) (by omega) [.slice (some ⟨gb', 0, none⟩) n cb'] 14 K1.out
    have zS1 : w3.heap.size = S1.heap.size := by rw [← qS1]; exact (setAll_size [.slice (some ⟨gb', 0, none⟩) n cb'] 14 _).symm
    clear qS1 Y1 R1 K1
    have MF : Hid (MadeE S1 (w.heap.size + 2) 107 l (gb') cb') := by
      rw [← hS1]
      exact HM'.out.heap (setAll_off (g := w.heap.size) (by have := HM'.out.base; omega) [.slice (some ⟨gb', 0, none⟩) n cb'] 14)
    try rw [hS1]
    clear hS1
    go_wp2_with (first | (refine wpList_load_row rfl 68 _ rfl (w.heap.size) rfl 68 _ (0, 0) _ Y2.out Tryz.underlying68 rfl (by kernel_rfl) ?_) | (refine wpList_store_row rfl 68 _ _ rfl (w.heap.size + 1) #[.int .i64 st, .int .i64 sh, .int .i64 sd, .int .i64 sp, .int .i64 eu, .int .i64 es, .int .i64 eh, .int .i64 ea, .int .i64 en, .int .i64 fu, .int .i64 fs, .int .i64 fh, .int .i64 fa, .int .i64 fn, .slice (some ⟨gb', 0, none⟩) n cb'] rfl rfl 68 _ R2.out (by kernel_rfl) rfl (by simp [Value.oneCell']) ?_))
    exact row_ret (r := w.heap.size + 1) (cs := #[.int .i64 st, .int .i64 sh, .int .i64 sd, .int .i64 sp, .int .i64 eu, .int .i64 es, .int .i64 eh, .int .i64 ea, .int .i64 en, .int .i64 fu, .int .i64 fs, .int .i64 fh, .int .i64 fa, .int .i64 fn, .slice (some ⟨gb', 0, none⟩) n cb']) rfl rfl (setRow_heap _ _ _ _ _ _ R2.out) Tryz.underlying68 rfl (by kernel_rfl) rfl ⟨gb', cb', rfl, (MF.out.heap (setRow_other _ _ _ _ (by have := MF.out.base; omega))).mono (by omega), below_setRow K2.out (by omega) _⟩

end Go.Proofs.YtioogmeghmeelaaGreat.Tx

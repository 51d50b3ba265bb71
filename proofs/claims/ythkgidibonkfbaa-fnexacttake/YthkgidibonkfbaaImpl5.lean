/-
  What PutAll and TakeAll of the program answer. Condition: at most 1048576 texts, or boxes.
-/
import Derived.Test.YthkgidibonkfbaaImpl5b
import Derived.Test.YthkgidibonkfbaaRowAll
namespace Go.Proofs.Ythkgidibonkfbaa.Tx
open Go.RowKit

set_option maxHeartbeats 4000000 in
theorem PutAll_impl (r : RowV) (A : Option Addr) (n cap : Nat) (ss : List ByteArray) (w : World) (h : Strs w w.heap.size A n ss) (hn : n ≤ 1048576) :
    Calls Try.prog 11 #[r.val, .slice A n cap] w (PutAllOut r ss w) := by
  have HC := Lib.hid h.2
  have HL := Lib.hid h.1
  clear h
  obtain ⟨⟨u, s, h, a⟩, no⟩ := r
  have HV : Hid (RowV.val ⟨⟨u, s, h, a⟩, no⟩ = .agg #[.int .i64 u, .int .i64 s, .int .i64 h, .int .i64 a, .int .i64 no]) := rfl
  rw [HV.out]
  go_enter Try.func11, Try.ntmps11
  go_wp2_with fail
  refine (RowOk_impl ⟨⟨u, s, h, a⟩, no⟩ _).mono ?_
  rintro e w1 ⟨rfl, hb⟩
  have K1 := Lib.hid (blk_on hb (heap3a w _ _ _))
  have R1 := Lib.hid (blk_on hb (heap3b w _ _ _))
  have O1 := Lib.hid (blk_on hb (heap3c w _ _ _))
  have L1 := Lib.hid (below_new3 hb)
  clear hb
  cases hr : rowOkB ⟨⟨u, s, h, a⟩, no⟩ with
  | false =>
    obtain ⟨⟨b0, b1, b2, b3, b4⟩, q0, q1, q2, q3, q4⟩ := blk5 R1.out
    have M1 : Hid (MadeB w1 w.heap.size [] (w.heap.size + 1 + 1) 0) := madeG_nil O1.out (by omega)
    go_wp2
    refine row_ret2 (r := w.heap.size + 1) (cs := List.toArray RowV.zero.cells) rfl rfl rfl (setAll_whole (w := w1) (vs := RowV.zero.cells) R1.out rfl) Try.underlying27 rfl (by kernel_rfl) rfl ⟨w.heap.size + 1 + 1, 0, ?_, ?_, setAll_below (w := w1) (by omega) RowV.zero.cells 0 L1.out⟩
    · rw [hr, if_neg Bool.false_ne_true, if_neg Bool.false_ne_true]; rfl
    · rw [hr, if_neg Bool.false_ne_true]; exact M1.out.heap (setAll_off (w := w1) (g := w.heap.size + 1) (by omega) RowV.zero.cells 0)
  | true =>
    have M1 : Hid (PutInv ⟨⟨u, s, h, a⟩, no⟩ ss w 0 (.slice (some ⟨w.heap.size + 1 + 1, 0, none⟩) 0 0) w1) := ⟨⟨⟨u, s, h, a⟩, no⟩, [], w.heap.size + 2, 0, rfl, hr, Nat.zero_le _, rfl, rfl, madeG_nil O1.out (Nat.le_refl _), K1.out, R1.out, L1.out⟩
    clear K1 R1 O1 L1
    go_wp2
    go_loopw [6, 20] (fun v i wr => ∃ k : Nat, k ≤ n ∧ i = .int .i64 k ∧ PutInv ⟨⟨u, s, h, a⟩, no⟩ ss w k v wr) (fun _ i _ => n - (intOf i).toNat)
    case atStart => exact ⟨0, Nat.zero_le _, rfl, M1.out⟩
    case round =>
      obtain ⟨k, hk, rfl, ⟨⟨qu, qs, qh, qa⟩, qn⟩, out, gb, cb, rfl, hq, hlen, e1, e2, hM, hK, hR, hB⟩ := hrel
      have E1 := Lib.hid e1
      have E2 := Lib.hid e2
      have HM := Lib.hid hM
      have HK := Lib.hid hK
      have HR := Lib.hid hR
      have HB := Lib.hid hB
      clear e1 e2 hM hK hR hB
      by_cases hlt : k < n
      · obtain ⟨b, off, rfl, hb, hc⟩ := HC.out (by omega)
        obtain ⟨t, ht⟩ : ∃ t, ss[k]?.getD ByteArray.empty = t := ⟨_, rfl⟩
        have ft : wr.cell? ⟨b, off + k, none⟩ = some (.string t) := by rw [HB.out.cell (p := ⟨b, off + k, none⟩) hb, hc k hlt, ht]
        obtain ⟨⟨k0, k1, k2, k3, k4⟩, _⟩ := blk5 HK.out
        have HT := Lib.hid ht
        have hk0 : (0 : Int) ≤ (k : Int) := by omega
        have hkn : (k : Int) < (n : Int) := by omega
        clear hc ht
        go_wp2_with fail
        clear ft k0 k1 k2 k3 k4
        obtain ⟨⟨⟨xu, xs, xh, xa⟩, xn⟩, hx⟩ : ∃ x, putR ⟨⟨qu, qs, qh, qa⟩, qn⟩ t = x := ⟨_, rfl⟩
        obtain ⟨⟨⟨yu, ys, yh, ya⟩, yn, yt, yp⟩, hy⟩ : ∃ x, putX ⟨⟨qu, qs, qh, qa⟩, qn⟩ t = x := ⟨_, rfl⟩
        obtain ⟨is, hz⟩ : ∃ x, putB ⟨⟨qu, qs, qh, qa⟩, qn⟩ t = x := ⟨_, rfl⟩
        refine (Put_impl ⟨⟨qu, qs, qh, qa⟩, qn⟩ t _).mono ?_
        rintro e v1 ⟨rfl, b1⟩
        have HX0 : Hid (RowV.val ⟨⟨xu, xs, xh, xa⟩, xn⟩ = .agg #[.int .i64 xu, .int .i64 xs, .int .i64 xh, .int .i64 xa, .int .i64 xn]) := rfl
        have HY0 : Hid (BoxV.val ⟨⟨yu, ys, yh, ya⟩, yn, yt, yp⟩ = .agg #[.int .i64 yu, .int .i64 ys, .int .i64 yh, .int .i64 ya, .int .i64 yn, .string yt, .bool yp]) := rfl
        rw [hx, hy, hz, HX0.out, HY0.out]
        have b2 : Below wr.heap.size wr ((v1.alloc (.cells #[.int .i64 xu, .int .i64 xs, .int .i64 xh, .int .i64 xa, .int .i64 xn] 27)).alloc (.cells #[.int .i64 yu, .int .i64 ys, .int .i64 yh, .int .i64 ya, .int .i64 yn, .string yt, .bool yp] 39)) := (b1.alloc b1.size _).alloc (Nat.le_trans b1.size (by simp)) _
        have H8 := heap2a v1 (.cells #[.int .i64 xu, .int .i64 xs, .int .i64 xh, .int .i64 xa, .int .i64 xn] 27) (.cells #[.int .i64 yu, .int .i64 ys, .int .i64 yh, .int .i64 ya, .int .i64 yn, .string yt, .bool yp] 39)
        have H9 := heap2b v1 (.cells #[.int .i64 xu, .int .i64 xs, .int .i64 xh, .int .i64 xa, .int .i64 xn] 27) (.cells #[.int .i64 yu, .int .i64 ys, .int .i64 yh, .int .i64 ya, .int .i64 yn, .string yt, .bool yp] 39)
        have hg8 : wr.heap.size ≤ v1.heap.size := b1.size
        obtain ⟨w2, hw2⟩ : ∃ x, (v1.alloc (.cells #[.int .i64 xu, .int .i64 xs, .int .i64 xh, .int .i64 xa, .int .i64 xn] 27)).alloc (.cells #[.int .i64 yu, .int .i64 ys, .int .i64 yh, .int .i64 ya, .int .i64 yn, .string yt, .bool yp] 39) = x := ⟨_, rfl⟩
        rw [hw2] at b2 H8 H9
        clear b1
        have HK2 := Lib.hid (blk_on b2 HK.out)
        have HR2 := Lib.hid (blk_on b2 HR.out)
        have HM2 := Lib.hid (HM.out.below b2)
        have HB2 := Lib.hid (HB.out.trans (b2.mono HB.out.size))
        have hs2 := b2.size
        have hgb := HM.out.base
        have hwr : w.heap.size + 1 < wr.heap.size := blk_in HR.out
        have H8' := Lib.hid H8
        have H9' := Lib.hid H9
        have hg8' := blk_in H8
        have hg9' := blk_in H9
        clear H8 H9 b2 HK HR HM HB
        have hd := drop_here HL.out hlt
        rw [HT.out] at hd
        have HD := Lib.hid hd
        clear hd
        obtain ⟨⟨a0, a1, a2, a3, a4⟩, p0, p1, p2, p3, p4⟩ := blk5 HK2.out
        cases is with
        | false =>
          obtain ⟨⟨b0, b1, b2, b3, b4⟩, q0, q1, q2, q3, q4⟩ := blk5 HR2.out
          have HE1 : Hid (putAllR ⟨⟨u, s, h, a⟩, no⟩ ss = ⟨⟨qu, qs, qh, qa⟩, qn⟩) := by show _ = _; rw [E1.out, HD.out, putAllR, hz]; rfl
          have HE2 : Hid (putAllL ⟨⟨u, s, h, a⟩, no⟩ ss = out) := by show _ = _; rw [E2.out, HD.out, putAllL, hz]; simp
          go_wp2
          refine row_ret2 (r := w.heap.size + 1) (cs := List.toArray (RowV.cells ⟨⟨qu, qs, qh, qa⟩, qn⟩)) rfl rfl rfl (setAll_whole (w := w2) (vs := RowV.cells ⟨⟨qu, qs, qh, qa⟩, qn⟩) HR2.out rfl) Try.underlying27 rfl (by kernel_rfl) rfl ⟨gb, cb, ?_, ?_, setAll_below (w := w2) (by omega) (RowV.cells ⟨⟨qu, qs, qh, qa⟩, qn⟩) 0 HB2.out⟩
          · rw [hr, if_pos rfl, if_pos rfl, HE1.out, HE2.out]; rfl
          · rw [hr, if_pos rfl, HE2.out]; exact (HM2.out.heap (setAll_off (w := w2) (g := w.heap.size + 1) (by omega) (RowV.cells ⟨⟨qu, qs, qh, qa⟩, qn⟩) 0)).mono (by omega)
        | true =>
          obtain ⟨ex, ey, hgo⟩ := put_true hz
          have HX : Hid (⟨⟨xu, xs, xh, xa⟩, xn⟩ = RowV.on ⟨⟨qu, qs, qh, qa⟩, qn⟩) := hx.symm.trans ex
          have HY : Hid (⟨⟨yu, ys, yh, ya⟩, yn, yt, yp⟩ = (⟨⟨qu, qs, qh, qa⟩, qn, t, false⟩ : BoxV)) := hy.symm.trans ey
          have hqo := rowOk_on hq hgo
          clear hx hy ex ey
          obtain ⟨⟨b0, b1, b2, b3, b4⟩, _⟩ := blk5 H8'.out
          obtain ⟨W3, hW3⟩ : ∃ W3, setAll w2 w.heap.size 0 (RowV.cells ⟨⟨xu, xs, xh, xa⟩, xn⟩) = W3 := ⟨_, rfl⟩
          have K3 : Hid (W3.heap[w.heap.size]? = some (.cells (List.toArray (RowV.cells ⟨⟨xu, xs, xh, xa⟩, xn⟩)) 27)) := by rw [← hW3]; exact setAll_whole HK2.out rfl
          have R3 : Hid (W3.heap[w.heap.size + 1]? = some (.cells (List.toArray RowV.zero.cells) 27)) := by rw [← hW3]; exact setAll_away (by omega) _ 0 HR2.out
          have Y3 : Hid (W3.heap[v1.heap.size + 1]? = some (.cells #[.int .i64 yu, .int .i64 ys, .int .i64 yh, .int .i64 ya, .int .i64 yn, .string yt, .bool yp] 39)) := by rw [← hW3]; exact setAll_away (by omega) _ 0 H9'.out
          have M3 : Hid (MadeB W3 (w.heap.size + 2) out gb cb) := by rw [← hW3]; exact HM2.out.heap (setAll_off (by omega) _ _)
          have B3 : Hid (Below w.heap.size w W3) := by rw [← hW3]; exact setAll_below (Nat.le_refl _) _ 0 HB2.out
          have s3 : w2.heap.size ≤ W3.heap.size := by rw [← hW3]; exact (setAll_below (B := 0) (a := w2) (Nat.zero_le _) _ 0 (Below.refl _ _)).size
          have hW : (((((w2.setCell ⟨w.heap.size, 0, none⟩ (.int .i64 xu)).setCell ⟨w.heap.size, 1, none⟩ (.int .i64 xs)).setCell ⟨w.heap.size, 2, none⟩ (.int .i64 xh)).setCell ⟨w.heap.size, 3, none⟩ (.int .i64 xa)).setCell ⟨w.heap.size, 4, none⟩ (.int .i64 xn)) = W3 := hW3
          obtain ⟨⟨d0, d1, d2, d3, d4, d5, d6⟩, _⟩ := blk7 Y3.out
          obtain ⟨i0, by0, hi, hz0, hz1, hz2, hby⟩ := infoBoxE
          clear hW3 HK2 HR2 HM2 HB2
          go_wp2_with (at_builtin; refine wpList_append_own _ rfl _ _ 31 rfl (w.heap.size + 2) 39 i0 BoxV.zero.val 7 by0 Try.underlying31 hi hz0 hz1 hz2 rfl (by decide) _ _ _ rfl (M3.out.own.alloc _) ⟨W3.heap.size, 0, none⟩ 1 1 (BoxV.cells ⟨⟨yu, ys, yh, ya⟩, yn, yt, yp⟩) rfl rfl (cells_new W3 (BoxV.cells ⟨⟨yu, ys, yh, ya⟩, yn, yt, yp⟩) _) (by simp [BoxV.cells, Value.oneCell']) (by unfold maxLen; omega) (by have : (out.length + 1) * by0 ≤ 1048577 * 100 := Nat.mul_le_mul (by omega) hby; omega) (by simp; omega) ?_; intro v' w3 hown' hgrow _; obtain ⟨gb', cb', rfl, hM'⟩ := MadeB.snoc hown'; have HM' := Lib.hid hM'; have HGR := Lib.hid hgrow; clear hown' hgrow hM')
          go_roundw
          case rel =>
            have hk1 : some (w.heap.size) ≠ some gb := by intro e; injection e with e; omega
            refine ⟨k + 1, by omega, by go_num, ⟨⟨xu, xs, xh, xa⟩, xn⟩, out ++ [⟨⟨yu, ys, yh, ya⟩, yn, yt, yp⟩], gb', cb', by simp, by rw [HX.out]; exact hqo, by simp; omega, ?_, ?_, HM'.out, ?_, ?_, ?_⟩
            · rw [E1.out, HD.out, putAllR, hz, HX.out]; rfl
            · rw [E2.out, HD.out, putAllL, hz, HX.out, HY.out]; simp
            · exact (HGR.out.block _ (by simp; omega) hk1).trans (alloc_blk K3.out)
            · exact (HGR.out.block _ (by simp; omega) (by intro e; have e1 := Option.some.inj e; dsimp only at e1; omega)).trans (alloc_blk R3.out)
            · exact (B3.out.alloc B3.out.size _).grown HGR.out (by simp; omega) (by intro k' e; have e1 := Option.some.inj e; dsimp only at e1; omega)
          case measure => simp [intOf]; omega
      · obtain rfl : k = n := by omega
        have hlt' : ¬ (k : Int) < (k : Int) := by omega
        have HD : Hid (ss.drop k = []) := List.drop_of_length_le (by rw [HL.out]; exact Nat.le_refl _)
        have HE1 : Hid (putAllR ⟨⟨u, s, h, a⟩, no⟩ ss = ⟨⟨qu, qs, qh, qa⟩, qn⟩) := by show _ = _; rw [E1.out, HD.out]; rfl
        have HE2 : Hid (putAllL ⟨⟨u, s, h, a⟩, no⟩ ss = out) := by show _ = _; rw [E2.out, HD.out]; simp [putAllL]
        have hgb := HM.out.base
        obtain ⟨⟨a0, a1, a2, a3, a4⟩, p0, p1, p2, p3, p4⟩ := blk5 HK.out
        obtain ⟨⟨b0, b1, b2, b3, b4⟩, q0, q1, q2, q3, q4⟩ := blk5 HR.out
        go_wp2
        refine row_ret2 (r := w.heap.size + 1) (cs := List.toArray (RowV.cells ⟨⟨qu, qs, qh, qa⟩, qn⟩)) rfl rfl rfl (setAll_whole (w := wr) (vs := RowV.cells ⟨⟨qu, qs, qh, qa⟩, qn⟩) HR.out rfl) Try.underlying27 rfl (by kernel_rfl) rfl ⟨gb, cb, ?_, ?_, setAll_below (w := wr) (by omega) (RowV.cells ⟨⟨qu, qs, qh, qa⟩, qn⟩) 0 HB.out⟩
        · rw [hr, if_pos rfl, if_pos rfl, HE1.out, HE2.out]; rfl
        · rw [hr, if_pos rfl, HE2.out]; exact (HM.out.heap (setAll_off (w := wr) (g := w.heap.size + 1) (by omega) (RowV.cells ⟨⟨qu, qs, qh, qa⟩, qn⟩) 0)).mono (by omega)


set_option maxHeartbeats 4000000 in
theorem TakeAll_impl (r : RowV) (A : Option Addr) (n cap : Nat) (bs : List BoxV) (w : World) (h : Bxs w w.heap.size A n bs) (hn : n ≤ 1048576) :
    Calls Try.prog 13 #[r.val, .slice A n cap] w (TakeAllOut r bs w) := by
  obtain ⟨i0, hi, hz0, hz1, hz2⟩ := info_parts infoString
  have HC := Lib.hid h.2
  have HL := Lib.hid h.1
  clear h
  obtain ⟨⟨u, s, h, a⟩, no⟩ := r
  have HV : Hid (RowV.val ⟨⟨u, s, h, a⟩, no⟩ = .agg #[.int .i64 u, .int .i64 s, .int .i64 h, .int .i64 a, .int .i64 no]) := rfl
  rw [HV.out]
  go_enter Try.func13, Try.ntmps13
  go_wp2_with fail
  refine (RowOk_impl ⟨⟨u, s, h, a⟩, no⟩ _).mono ?_
  rintro e w1 ⟨rfl, hb⟩
  have K1 := Lib.hid (blk_on hb (heap3a w _ _ _))
  have R1 := Lib.hid (blk_on hb (heap3b w _ _ _))
  have O1 := Lib.hid (blk_on hb (heap3c w _ _ _))
  have L1 := Lib.hid (below_new3 hb)
  clear hb
  cases hr : rowOkB ⟨⟨u, s, h, a⟩, no⟩ with
  | false =>
    obtain ⟨⟨b0, b1, b2, b3, b4⟩, q0, q1, q2, q3, q4⟩ := blk5 R1.out
    have M1 : Hid (MadeS w1 w.heap.size [] (w.heap.size + 1 + 1) 0) := madeG_nil O1.out (by omega)
    go_wp2
    refine row_ret2 (r := w.heap.size + 1) (cs := List.toArray RowV.zero.cells) rfl rfl rfl (setAll_whole (w := w1) (vs := RowV.zero.cells) R1.out rfl) Try.underlying27 rfl (by kernel_rfl) rfl ⟨w.heap.size + 1 + 1, 0, ?_, ?_, setAll_below (w := w1) (by omega) RowV.zero.cells 0 L1.out⟩
    · rw [hr, if_neg Bool.false_ne_true, if_neg Bool.false_ne_true]; rfl
    · rw [hr, if_neg Bool.false_ne_true]; exact M1.out.heap (setAll_off (w := w1) (g := w.heap.size + 1) (by omega) RowV.zero.cells 0)
  | true =>
    have M1 : Hid (TakeInv ⟨⟨u, s, h, a⟩, no⟩ bs w 0 (.slice (some ⟨w.heap.size + 1 + 1, 0, none⟩) 0 0) w1) := ⟨⟨⟨u, s, h, a⟩, no⟩, [], w.heap.size + 2, 0, rfl, hr, Nat.zero_le _, rfl, rfl, madeG_nil O1.out (Nat.le_refl _), K1.out, R1.out, L1.out⟩
    clear K1 R1 O1 L1
    go_wp2
    go_loopw [6, 20] (fun v i wr => ∃ k : Nat, k ≤ n ∧ i = .int .i64 k ∧ TakeInv ⟨⟨u, s, h, a⟩, no⟩ bs w k v wr) (fun _ i _ => n - (intOf i).toNat)
    case atStart => exact ⟨0, Nat.zero_le _, rfl, M1.out⟩
    case round =>
      obtain ⟨k, hk, rfl, ⟨⟨qu, qs, qh, qa⟩, qn⟩, out, gb, cb, rfl, hq, hlen, e1, e2, hM, hK, hR, hB⟩ := hrel
      have E1 := Lib.hid e1
      have E2 := Lib.hid e2
      have HM := Lib.hid hM
      have HK := Lib.hid hK
      have HR := Lib.hid hR
      have HB := Lib.hid hB
      clear e1 e2 hM hK hR hB
      by_cases hlt : k < n
      · obtain ⟨b, off, rfl, hb, hc⟩ := HC.out (by omega)
        obtain ⟨⟨⟨tu, ts, th, ta⟩, tn, tt, tp⟩, ht⟩ : ∃ t, bs[k]?.getD .zero = t := ⟨_, rfl⟩
        have ft : BoxAt wr b (off + k * 7) ⟨⟨tu, ts, th, ta⟩, tn, tt, tp⟩ := by
          have := (hc k hlt).below hb HB.out
          rwa [ht] at this
        unfold BoxAt at ft
        obtain ⟨t0, t1, t2, t3, t4, t5, t6⟩ := ft
        obtain ⟨wa, hwa⟩ : ∃ x, wr.alloc (.cells #[.int .i64 tu, .int .i64 ts, .int .i64 th, .int .i64 ta, .int .i64 tn, .string tt, .bool tp] 39) = x := ⟨_, rfl⟩
        have ba : Below wr.heap.size wr wa := by rw [← hwa]; exact (Below.refl _ _).alloc (Nat.le_refl _) _
        have KA : wa.heap[w.heap.size]? = _ := blk_on ba HK.out
        have XA : wa.heap[wr.heap.size]? = some (.cells #[.int .i64 tu, .int .i64 ts, .int .i64 th, .int .i64 ta, .int .i64 tn, .string tt, .bool tp] 39) := by rw [← hwa]; exact heap1 wr _
        obtain ⟨⟨k0, k1, k2, k3, k4⟩, _⟩ := blk5 KA
        obtain ⟨⟨x0, x1, x2, x3, x4, x5, x6⟩, _⟩ := blk7 XA
        have HT := Lib.hid ht
        have hk0 : (0 : Int) ≤ (k : Int) := by omega
        have hkn : (k : Int) < (n : Int) := by omega
        have HBA := Lib.hid ba
        clear hc ht KA XA ba
        go_wp2_with fail
        clear t0 t1 t2 t3 t4 t5 t6 x0 x1 x2 x3 x4 x5 x6 k0 k1 k2 k3 k4 hwa
        obtain ⟨⟨⟨xu, xs, xh, xa⟩, xn⟩, hx⟩ : ∃ x, takeR ⟨⟨qu, qs, qh, qa⟩, qn⟩ ⟨⟨tu, ts, th, ta⟩, tn, tt, tp⟩ = x := ⟨_, rfl⟩
        obtain ⟨y, hy⟩ : ∃ x, takeT ⟨⟨qu, qs, qh, qa⟩, qn⟩ ⟨⟨tu, ts, th, ta⟩, tn, tt, tp⟩ = x := ⟨_, rfl⟩
        obtain ⟨is, hz⟩ : ∃ x, takeB ⟨⟨qu, qs, qh, qa⟩, qn⟩ ⟨⟨tu, ts, th, ta⟩, tn, tt, tp⟩ = x := ⟨_, rfl⟩
        refine (Take_impl ⟨⟨qu, qs, qh, qa⟩, qn⟩ ⟨⟨tu, ts, th, ta⟩, tn, tt, tp⟩ _).mono ?_
        rintro e v1 ⟨rfl, b1'⟩
        have b1 : Below wr.heap.size wr v1 := HBA.out.trans (b1'.mono HBA.out.size)
        have HX0 : Hid (RowV.val ⟨⟨xu, xs, xh, xa⟩, xn⟩ = .agg #[.int .i64 xu, .int .i64 xs, .int .i64 xh, .int .i64 xa, .int .i64 xn]) := rfl
        rw [hx, hy, hz, HX0.out]
        have b2 : Below wr.heap.size wr (v1.alloc (.cells #[.int .i64 xu, .int .i64 xs, .int .i64 xh, .int .i64 xa, .int .i64 xn] 27)) := b1.alloc b1.size _
        have H8 := heap1 v1 (.cells #[.int .i64 xu, .int .i64 xs, .int .i64 xh, .int .i64 xa, .int .i64 xn] 27)
        have hg8 : wr.heap.size ≤ v1.heap.size := b1.size
        obtain ⟨w2, hw2⟩ : ∃ x, v1.alloc (.cells #[.int .i64 xu, .int .i64 xs, .int .i64 xh, .int .i64 xa, .int .i64 xn] 27) = x := ⟨_, rfl⟩
        rw [hw2] at b2 H8
        clear b1 b1' HBA
        have HK2 := Lib.hid (blk_on b2 HK.out)
        have HR2 := Lib.hid (blk_on b2 HR.out)
        have HM2 := Lib.hid (HM.out.below b2)
        have HB2 := Lib.hid (HB.out.trans (b2.mono HB.out.size))
        have hs2 := b2.size
        have hgb := HM.out.base
        have hwr : w.heap.size + 1 < wr.heap.size := blk_in HR.out
        have H8' := Lib.hid H8
        clear H8 b2 HK HR HM HB
        have hd := drop_hereB HL.out hlt
        rw [HT.out] at hd
        have HD := Lib.hid hd
        clear hd
        cases is with
        | false =>
          have HE1 : Hid (takeAllR ⟨⟨u, s, h, a⟩, no⟩ bs = takeAllR ⟨⟨qu, qs, qh, qa⟩, qn⟩ (bs.drop (k + 1))) := by show _ = _; rw [E1.out, HD.out, takeAllR, hz]; rfl
          have HE2 : Hid (takeAllL ⟨⟨u, s, h, a⟩, no⟩ bs = out ++ takeAllL ⟨⟨qu, qs, qh, qa⟩, qn⟩ (bs.drop (k + 1))) := by show _ = _; rw [E2.out, HD.out, takeAllL, hz]; rfl
          clear hx hy
          go_wp2
          go_roundw
          case rel => exact ⟨k + 1, by omega, by go_num, ⟨⟨qu, qs, qh, qa⟩, qn⟩, out, gb, cb, rfl, hq, by omega, HE1.out, HE2.out, HM2.out, HK2.out, HR2.out, HB2.out⟩
          case measure => simp [intOf]; omega
        | true =>
          obtain ⟨⟨a0, a1, a2, a3, a4⟩, p0, p1, p2, p3, p4⟩ := blk5 HK2.out
          obtain ⟨ex, ey, hgo⟩ := take_true hz
          have HX : Hid (⟨⟨xu, xs, xh, xa⟩, xn⟩ = RowV.on ⟨⟨qu, qs, qh, qa⟩, qn⟩) := hx.symm.trans ex
          have HY : Hid (y = tt) := hy.symm.trans ey
          have hqo := rowOk_on hq hgo
          clear hx hy ex ey
          obtain ⟨⟨b0, b1, b2, b3, b4⟩, _⟩ := blk5 H8'.out
          obtain ⟨W3, hW3⟩ : ∃ W3, setAll w2 w.heap.size 0 (RowV.cells ⟨⟨xu, xs, xh, xa⟩, xn⟩) = W3 := ⟨_, rfl⟩
          have K3 : Hid (W3.heap[w.heap.size]? = some (.cells (List.toArray (RowV.cells ⟨⟨xu, xs, xh, xa⟩, xn⟩)) 27)) := by rw [← hW3]; exact setAll_whole HK2.out rfl
          have R3 : Hid (W3.heap[w.heap.size + 1]? = some (.cells (List.toArray RowV.zero.cells) 27)) := by rw [← hW3]; exact setAll_away (by omega) _ 0 HR2.out
          have M3 : Hid (MadeS W3 (w.heap.size + 2) out gb cb) := by rw [← hW3]; exact HM2.out.heap (setAll_off (by omega) _ _)
          have B3 : Hid (Below w.heap.size w W3) := by rw [← hW3]; exact setAll_below (Nat.le_refl _) _ 0 HB2.out
          have s3 : w2.heap.size ≤ W3.heap.size := by rw [← hW3]; exact (setAll_below (B := 0) (a := w2) (Nat.zero_le _) _ 0 (Below.refl _ _)).size
          have hW : (((((w2.setCell ⟨w.heap.size, 0, none⟩ (.int .i64 xu)).setCell ⟨w.heap.size, 1, none⟩ (.int .i64 xs)).setCell ⟨w.heap.size, 2, none⟩ (.int .i64 xh)).setCell ⟨w.heap.size, 3, none⟩ (.int .i64 xa)).setCell ⟨w.heap.size, 4, none⟩ (.int .i64 xn)) = W3 := hW3
          clear hW3 HK2 HR2 HM2 HB2
          go_wp2_with (at_builtin; refine wpList_append_own _ rfl _ _ 28 rfl (w.heap.size + 2) 9 i0 (.string ByteArray.empty) 1 16 Try.underlying28 hi hz0 hz1 hz2 rfl (by decide) _ _ _ rfl (M3.out.own.alloc _) ⟨W3.heap.size, 0, none⟩ 1 1 [.string y] rfl rfl (cells_new W3 [.string y] _) (by simp [Value.oneCell']) (by unfold maxLen; omega) (by omega) (by simp; omega) ?_; intro v' w3 hown' hgrow _; obtain ⟨gb', cb', rfl, hM'⟩ := madeS_snoc hown'; have HM' := Lib.hid hM'; have HGR := Lib.hid hgrow; clear hown' hgrow hM')
          go_roundw
          case rel =>
            refine ⟨k + 1, by omega, by go_num, ⟨⟨xu, xs, xh, xa⟩, xn⟩, out ++ [y], gb', cb', by simp, by rw [HX.out]; exact hqo, by simp; omega, ?_, ?_, HM'.out, ?_, ?_, ?_⟩
            · rw [E1.out, HD.out, takeAllR, hz, HX.out]; rfl
            · rw [E2.out, HD.out, takeAllL, hz, HX.out, HY.out]; simp
            · exact (HGR.out.block _ (by simp; omega) (by intro e; have e1 := Option.some.inj e; dsimp only at e1; omega)).trans (alloc_blk K3.out)
            · exact (HGR.out.block _ (by simp; omega) (by intro e; have e1 := Option.some.inj e; dsimp only at e1; omega)).trans (alloc_blk R3.out)
            · exact (B3.out.alloc B3.out.size _).grown HGR.out (by simp; omega) (by intro k' e; have e1 := Option.some.inj e; dsimp only at e1; omega)
          case measure => simp [intOf]; omega
      · obtain rfl : k = n := by omega
        have hlt' : ¬ (k : Int) < (k : Int) := by omega
        have HD : Hid (bs.drop k = []) := List.drop_of_length_le (by rw [HL.out]; exact Nat.le_refl _)
        have HE1 : Hid (takeAllR ⟨⟨u, s, h, a⟩, no⟩ bs = ⟨⟨qu, qs, qh, qa⟩, qn⟩) := by show _ = _; rw [E1.out, HD.out]; rfl
        have HE2 : Hid (takeAllL ⟨⟨u, s, h, a⟩, no⟩ bs = out) := by show _ = _; rw [E2.out, HD.out]; simp [takeAllL]
        have hgb := HM.out.base
        obtain ⟨⟨a0, a1, a2, a3, a4⟩, p0, p1, p2, p3, p4⟩ := blk5 HK.out
        obtain ⟨⟨b0, b1, b2, b3, b4⟩, q0, q1, q2, q3, q4⟩ := blk5 HR.out
        go_wp2
        refine row_ret2 (r := w.heap.size + 1) (cs := List.toArray (RowV.cells ⟨⟨qu, qs, qh, qa⟩, qn⟩)) rfl rfl rfl (setAll_whole (w := wr) (vs := RowV.cells ⟨⟨qu, qs, qh, qa⟩, qn⟩) HR.out rfl) Try.underlying27 rfl (by kernel_rfl) rfl ⟨gb, cb, ?_, ?_, setAll_below (w := wr) (by omega) (RowV.cells ⟨⟨qu, qs, qh, qa⟩, qn⟩) 0 HB.out⟩
        · rw [hr, if_pos rfl, if_pos rfl, HE1.out, HE2.out]; rfl
        · rw [hr, if_pos rfl, HE2.out]; exact (HM.out.heap (setAll_off (w := wr) (g := w.heap.size + 1) (by omega) (RowV.cells ⟨⟨qu, qs, qh, qa⟩, qn⟩) 0)).mono (by omega)


end Go.Proofs.Ythkgidibonkfbaa.Tx

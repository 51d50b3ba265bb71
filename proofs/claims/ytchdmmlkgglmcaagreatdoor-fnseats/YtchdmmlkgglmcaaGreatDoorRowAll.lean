/-
  What PutAll and TakeAll of the model answer. Condition: at most 1048576 texts, or boxes.
-/
import Derived.Test.YtchdmmlkgglmcaaGreatDoorOwn
import Derived.Test.YtchdmmlkgglmcaaGreatDoorRow
import Derived.Test.YtchdmmlkgglmcaaGreatDoorLists
import Derived.Test.YtchdmmlkgglmcaaGreatDoorBoxes
import Derived.Test.YtchdmmlkgglmcaaGreatDoorRegionO
namespace Go.Proofs.YtchdmmlkgglmcaaGreatDoor.Tx
open Go.RowKit

/-- Put one after the other, as far as that goes: the row behind it, and the boxes. -/
def putAllR : RowV → List ByteArray → RowV
  | r, [] => r
  | r, t :: l => if putB r t then putAllR r.on l else r
def putAllL : RowV → List ByteArray → List BoxV
  | _, [] => []
  | r, t :: l => if putB r t then ⟨r.k, r.no, t, false⟩ :: putAllL r.on l else []
theorem putAllL_length : ∀ (ss : List ByteArray) (r : RowV), (putAllL r ss).length ≤ ss.length
  | [], _ => Nat.le_refl _
  | t :: l, r => by
    unfold putAllL
    split
    · simp only [List.length_cons]; have := putAllL_length l r.on; omega
    · simp
theorem rowOk_on {r : RowV} (h : rowOkB r = true) (hg : goesB r = true) : rowOkB r.on = true := by
  obtain ⟨h0, h1⟩ := goes_range hg h
  simp only [rowOkB, Bool.and_eq_true, inB, decide_eq_true_iff] at h ⊢
  exact ⟨h.1, by simp only [RowV.on]; omega, by simp only [RowV.on]; omega⟩

/-- A list of boxes that the call made. -/
abbrev MadeB (w : World) (base : Nat) (bs : List BoxV) (gb cb : Nat) : Prop := MadeG w base 32 7 bs.length (bs.flatMap BoxV.cells) gb cb
theorem cells_flat (bs : List BoxV) : (bs.flatMap BoxV.cells).length = bs.length * 7 := by
  induction bs with
  | nil => rfl
  | cons b r ih => rw [List.flatMap_cons, List.length_append, ih, List.length_cons]; show 7 + _ = _; omega
theorem flat_get : ∀ (bs : List BoxV) (j i : Nat), j < bs.length → i < 7 → (bs.flatMap BoxV.cells)[j * 7 + i]? = (BoxV.cells (bs[j]?.getD .zero))[i]?
  | [], j, _, h, _ => by simp at h
  | b :: r, 0, i, _, hi => by
    rw [List.flatMap_cons, List.getElem?_append_left (by show 0 * 7 + i < 7; omega), Nat.zero_mul, Nat.zero_add]
    rfl
  | b :: r, j + 1, i, h, hi => by
    rw [List.flatMap_cons, List.getElem?_append_right (by show 7 ≤ _; omega)]
    have e : (j + 1) * 7 + i - (BoxV.cells b).length = j * 7 + i := by show (j + 1) * 7 + i - 7 = _; omega
    rw [e, flat_get r j i (by simp at h; omega) hi]
    simp
theorem MadeB.bxs {w : World} {base : Nat} {bs : List BoxV} {gb cb : Nat} (h : MadeB w base bs gb cb) : Bxs w w.heap.size (some ⟨gb, 0, none⟩) bs.length bs :=
  ⟨rfl, fun _ => ⟨gb, 0, rfl, h.base.2, fun j hj => by
    have c : ∀ i v, i < 7 → (BoxV.cells (bs[j]?.getD .zero))[i]? = some v → w.cell? ⟨gb, 0 + j * 7 + i, none⟩ = some v := fun i v hi hv => by
      have := h.own.cells (g := gb) rfl (j * 7 + i) v (by rw [flat_get bs j i hj hi]; exact hv)
      rwa [Go.WideShapes.add_plain, ← Nat.add_assoc] at this
    exact ⟨c 0 _ (by omega) rfl, c 1 _ (by omega) rfl, c 2 _ (by omega) rfl, c 3 _ (by omega) rfl, c 4 _ (by omega) rfl, c 5 _ (by omega) rfl, c 6 _ (by omega) rfl⟩⟩⟩
theorem MadeB.snoc {w : World} {base : Nat} {bs : List BoxV} {b : BoxV} {v : Value} (h : w.ownsRow base 32 7 v (bs.length + 1) (bs.flatMap BoxV.cells ++ b.cells)) :
    ∃ gb cb, v = .slice (some ⟨gb, 0, none⟩) (bs.length + 1) cb ∧ MadeB w base (bs ++ [b]) gb cb := by
  obtain ⟨gb, cb, e, hm⟩ := madeG_of h (by omega)
  refine ⟨gb, cb, e, ?_⟩
  have e1 : (bs ++ [b]).flatMap BoxV.cells = bs.flatMap BoxV.cells ++ b.cells := by simp [List.flatMap_append]
  have e2 : (bs ++ [b]).length = bs.length + 1 := by simp
  unfold MadeB
  rw [e1, e2]
  exact hm
theorem flat_set : ∀ (bs : List BoxV) (k : Nat) (b : BoxV), k < bs.length → (bs.set k b).flatMap BoxV.cells = (bs.flatMap BoxV.cells).take (k * 7) ++ (b.cells ++ (bs.flatMap BoxV.cells).drop (k * 7 + 7))
  | [], _, _, h => by simp at h
  | c :: r, 0, b, _ => by
    rw [List.set_cons_zero, List.flatMap_cons, List.flatMap_cons, Nat.zero_mul, List.take_zero, List.nil_append, Nat.zero_add]
    have e : (c.cells ++ List.flatMap BoxV.cells r).drop 7 = List.flatMap BoxV.cells r := List.drop_left' rfl
    rw [e]
  | c :: r, k + 1, b, h => by
    have e1 : (c.cells ++ r.flatMap BoxV.cells).take ((k + 1) * 7) = c.cells ++ (r.flatMap BoxV.cells).take (k * 7) := by
      rw [show (k + 1) * 7 = c.cells.length + k * 7 by show _ = 7 + k * 7; omega, List.take_length_add_append]
    have e2 : (c.cells ++ r.flatMap BoxV.cells).drop ((k + 1) * 7 + 7) = (r.flatMap BoxV.cells).drop (k * 7 + 7) := by
      rw [show (k + 1) * 7 + 7 = c.cells.length + (k * 7 + 7) by show _ = 7 + _; omega, List.drop_length_add_append]
    rw [List.set_cons_succ, List.flatMap_cons, List.flatMap_cons, flat_set r k b (by simp at h; omega), e1, e2, List.append_assoc]
theorem MadeB.set {w : World} {base : Nat} {bs : List BoxV} {gb cb : Nat} (h : MadeB w base bs gb cb) (k : Nat) (b : BoxV) (hk : k < bs.length) : MadeB (setAll w gb (k * 7) b.cells) base (bs.set k b) gb cb := by
  have := h.put (k * 7) b.cells (by show k * 7 + 7 ≤ _; omega)
  unfold MadeB
  rw [List.length_set, flat_set bs k b hk]
  exact this
theorem infoBoxE : ∃ (i : TypeInfo) (by' : Nat), Tryz.prog.info? 32 = some i ∧ i.zero = some BoxV.zero.val ∧ i.size = 7 ∧ i.bytes = by' ∧ by' ≤ 100 := by
  obtain ⟨i, hi⟩ := Option.isSome_iff_exists.1 (show (Tryz.prog.info? 32).isSome = true by kernel_rfl)
  have h1 : (Tryz.prog.info? 32).map (fun i => (i.zero, i.size)) = some (some BoxV.zero.val, 7) := by kernel_rfl
  have h2 : ((Tryz.prog.info? 32).map (fun i => decide (i.bytes ≤ 100))) = some true := by kernel_rfl
  rw [hi] at h1 h2
  simp only [Option.map_some, Option.some.injEq, Prod.mk.injEq, decide_eq_true_eq] at h1 h2
  exact ⟨i, i.bytes, hi, h1.1, h1.2, rfl, h2⟩

theorem put_true {q : RowV} {t : ByteArray} (h : putB q t = true) : putR q t = q.on ∧ putX q t = ⟨q.k, q.no, t, false⟩ ∧ goesB q = true := by
  have h0 := h
  simp only [putB, Bool.and_eq_true] at h
  exact ⟨by simp [putR, h0, h.1], by simp [putX, h0], h.2.2⟩
theorem drop_here {ss : List ByteArray} {k n : Nat} (hl : ss.length = n) (h : k < n) : ss.drop k = (ss[k]?.getD ByteArray.empty) :: ss.drop (k + 1) := by
  have hk : k < ss.length := by omega
  rw [List.getElem?_eq_getElem hk, Option.getD_some]
  exact List.drop_eq_getElem_cons hk

/-- What PutAll leaves. -/
def PutAllOut (r : RowV) (ss : List ByteArray) (w : World) (e : Ending) (w' : World) : Prop :=
  ∃ gb cb : Nat, e = .returned (.tuple #[(if rowOkB r then putAllR r ss else .zero).val, .slice (some ⟨gb, 0, none⟩) (if rowOkB r then putAllL r ss else []).length cb]) ∧ MadeB w' w.heap.size (if rowOkB r then putAllL r ss else []) gb cb ∧ Below w.heap.size w w'

/-- What holds at the head of PutAll's loop. -/
def PutInv (r : RowV) (ss : List ByteArray) (w : World) (k : Nat) (v : Value) (wr : World) : Prop :=
  ∃ (q : RowV) (out : List BoxV) (gb cb : Nat), v = .slice (some ⟨gb, 0, none⟩) out.length cb ∧ rowOkB q = true ∧ out.length ≤ k ∧ putAllR r ss = putAllR q (ss.drop k) ∧ putAllL r ss = out ++ putAllL q (ss.drop k) ∧
    MadeB wr (w.heap.size + 2) out gb cb ∧ wr.heap[w.heap.size]? = some (.cells q.cells.toArray 27) ∧ wr.heap[w.heap.size + 1]? = some (.cells RowV.zero.cells.toArray 27) ∧ Below w.heap.size w wr

set_option maxHeartbeats 4000000 in
theorem PutAll_spec (r : RowV) (A : Option Addr) (n cap : Nat) (ss : List ByteArray) (w : World) (h : Strs w w.heap.size A n ss) (hn : n ≤ 1048576) :
    Calls Tryz.prog 67 #[r.val, .slice A n cap] w (PutAllOut r ss w) := by
  have HC := Lib.hid h.2
  have HL := Lib.hid h.1
  clear h
  obtain ⟨⟨u, s, h, a⟩, no⟩ := r
  have HV : Hid (RowV.val ⟨⟨u, s, h, a⟩, no⟩ = .agg #[.int .i64 u, .int .i64 s, .int .i64 h, .int .i64 a, .int .i64 no]) := rfl
  rw [HV.out]
  go_enter Tryz.func67, Tryz.ntmps67
  go_wp2_with fail
  refine (RowOk_spec ⟨⟨u, s, h, a⟩, no⟩ _).mono ?_
  rintro e w1 ⟨rfl, hb⟩
  have K1 := Lib.hid (blk_on hb (heap3a w _ _ _))
  have R1 := Lib.hid (blk_on hb (heap3b w _ _ _))
  have O1 := Lib.hid (blk_on hb (heap3c w _ _ _))
  have L1 := Lib.hid (below_new3 hb)
  clear hb
  cases hr : rowOkB ⟨⟨u, s, h, a⟩, no⟩ with
  | false =>
    obtain ⟨⟨b0, b1, b2, b3, b4⟩, q0, q1, q2, q3, q4⟩ := blk5 R1.out
    have M1 : Hid (MadeB w1 w.heap.size [] (w.heap.size + 1 + 1) 0) := madeG_nil O1.out (by omega)
    go_wp2
    refine row_ret2 (r := w.heap.size + 1) (cs := List.toArray RowV.zero.cells) rfl rfl rfl (setAll_whole (w := w1) (vs := RowV.zero.cells) R1.out rfl) Tryz.underlying27 rfl (by kernel_rfl) rfl ⟨w.heap.size + 1 + 1, 0, ?_, ?_, setAll_below (w := w1) (by omega) RowV.zero.cells 0 L1.out⟩
    · rw [hr, if_neg Bool.false_ne_true, if_neg Bool.false_ne_true]; rfl
    · rw [hr, if_neg Bool.false_ne_true]; exact M1.out.heap (setAll_off (w := w1) (g := w.heap.size + 1) (by omega) RowV.zero.cells 0)
  | true =>
    have M1 : Hid (PutInv ⟨⟨u, s, h, a⟩, no⟩ ss w 0 (.slice (some ⟨w.heap.size + 1 + 1, 0, none⟩) 0 0) w1) := ⟨⟨⟨u, s, h, a⟩, no⟩, [], w.heap.size + 2, 0, rfl, hr, Nat.zero_le _, rfl, rfl, madeG_nil O1.out (Nat.le_refl _), K1.out, R1.out, L1.out⟩
    clear K1 R1 O1 L1
    go_wp2
    go_loopw [6, 7] (fun v i wr => ∃ k : Nat, k ≤ n ∧ i = .int .i64 k ∧ PutInv ⟨⟨u, s, h, a⟩, no⟩ ss w k v wr) (fun _ i _ => n - (intOf i).toNat)
    case atStart => exact ⟨0, Nat.zero_le _, rfl, M1.out⟩
    case round =>
      obtain ⟨k, hk, rfl, ⟨⟨qu, qs, qh, qa⟩, qn⟩, out, gb, cb, rfl, hq, hlen, e1, e2, hM, hK, hR, hB⟩ := hrel
      have E1 := Lib.hid e1
      have E2 := Lib.hid e2
      have HM := Lib.hid hM
      have HK := Lib.hid hK
      have HR := Lib.hid hR
      have HB := Lib.hid hB
      clear e1 e2 hM hK hR hB
      by_cases hlt : k < n
      · obtain ⟨b, off, rfl, hb, hc⟩ := HC.out (by omega)
        obtain ⟨t, ht⟩ : ∃ t, ss[k]?.getD ByteArray.empty = t := ⟨_, rfl⟩
        have ft : ∀ q : In (plainEnv wr []), q.w.cell? ⟨b, off + k, none⟩ = some (.string t) := fun q => by
          rw [q.bel.cell (p := ⟨b, off + k, none⟩) (Nat.lt_of_lt_of_le hb HB.out.size), HB.out.cell (p := ⟨b, off + k, none⟩) hb, hc k hlt, ht]
        have fk : ∀ q : In (plainEnv wr []), _ := fun q => (blk5 (q.block HK.out (by simp))).1
        dsimp only at fk
        have HT := Lib.hid ht
        have hk0 : (0 : Int) ≤ (k : Int) := by omega
        have hkn : (k : Int) < (n : Int) := by omega
        clear hc ht
        go_wp2
        refine wp_region_own (W := wr) [] (fun _ => True) stays_true trivial [0, 0, 0, 0, 0, 1, 0, 0, 0, 0, 2, 2, 3, 3, 0] (by kernel_rfl) (by kernel_rfl) (by kernel_rfl) ?_
        refine wpO_quiet 5 rfl (by kernel_rfl) ?_
        simp only [List.take, List.drop]
        repeat (go_big_quiet_step (fail))
        refine wpQuiet_nil ?_
        obtain ⟨⟨⟨xu, xs, xh, xa⟩, xn⟩, hx⟩ : ∃ x, putR ⟨⟨qu, qs, qh, qa⟩, qn⟩ t = x := ⟨_, rfl⟩
        obtain ⟨⟨⟨yu, ys, yh, ya⟩, yn, yt, yp⟩, hy⟩ : ∃ x, putX ⟨⟨qu, qs, qh, qa⟩, qn⟩ t = x := ⟨_, rfl⟩
        obtain ⟨is, hz⟩ : ∃ x, putB ⟨⟨qu, qs, qh, qa⟩, qn⟩ t = x := ⟨_, rfl⟩
        refine wpO_call (f := 76) (args := #[.agg #[.int .i64 qu, .int .i64 qs, .int .i64 qh, .int .i64 qa, .int .i64 qn], .string t]) (.tuple #[.agg #[.int .i64 xu, .int .i64 xs, .int .i64 xh, .int .i64 xa, .int .i64 xn], .agg #[.int .i64 yu, .int .i64 ys, .int .i64 yh, .int .i64 ya, .int .i64 yn, .string yt, .bool yp], .bool is]) rfl (fun w' => by simp [go_sem]) (fun w' _ _ => by have := Put_spec ⟨⟨qu, qs, qh, qa⟩, qn⟩ t w'; rw [hx, hy, hz] at this; exact this) ?_
        simp only [Act.put, List.setIfInBounds_toArray, List.set_cons_succ, List.set_cons_zero]
        refine wpO_quiet 4 rfl (by kernel_rfl) ?_
        simp only [List.take, List.drop]
        repeat (go_big_quiet_step (fail))
        refine wpQuiet_nil ?_
        refine wpO_alloc (.cells #[.int .i64 0, .int .i64 0, .int .i64 0, .int .i64 0, .int .i64 0] 27) rfl (fun w' => by simp [go_sem]) fun g8 mg8 _ => ?_
        have hg8 : wr.heap.size ≤ g8 := mg8
        refine wpO_alloc (.cells #[.int .i64 0, .int .i64 0, .int .i64 0, .int .i64 0, .int .i64 0, .string ⟨#[]⟩, .bool false] 32) rfl (fun w' => by simp [go_sem]) fun g9 mg9 hn9 => ?_
        have hg9 : wr.heap.size ≤ g9 := mg9
        have hne : g9 ≠ g8 := fun e => hn9 (by rw [e]; exact List.mem_cons_self)
        simp only [Act.put, List.setIfInBounds_toArray, List.set_cons_succ, List.set_cons_zero]
        refine wpO_store (g := g8) (t := 27) (old := #[.int .i64 0, .int .i64 0, .int .i64 0, .int .i64 0, .int .i64 0]) (fun w' => w'.heap[g9]? = some (.cells #[.int .i64 0, .int .i64 0, .int .i64 0, .int .i64 0, .int .i64 0, .string ⟨#[]⟩, .bool false] 32)) #[.int .i64 xu, .int .i64 xs, .int .i64 xh, .int .i64 xa, .int .i64 xn] rfl rfl rfl rfl (Env.own _ mg8) (by kernel_rfl) rfl rfl (fun w' h => ⟨h.2, h.1.2⟩) (stays_blk (Env.own _ mg9) _) (away_blk hne _) ?_
        refine wpO_store (g := g9) (t := 32) (old := #[.int .i64 0, .int .i64 0, .int .i64 0, .int .i64 0, .int .i64 0, .string ⟨#[]⟩, .bool false]) (fun w' => w'.heap[g8]? = some (.cells #[.int .i64 xu, .int .i64 xs, .int .i64 xh, .int .i64 xa, .int .i64 xn] 27)) #[.int .i64 yu, .int .i64 ys, .int .i64 yh, .int .i64 ya, .int .i64 yn, .string yt, .bool yp] rfl rfl rfl rfl (Env.own _ mg9) (by kernel_rfl) rfl rfl (fun w' h => ⟨h.2, h.1⟩) (stays_blk (Env.own _ mg8) _) (away_blk (Ne.symm hne) _) ?_
        simp only [Act.put]
        refine wpO_quiet 1 rfl (by kernel_rfl) ?_
        simp only [List.take, List.drop]
        repeat (go_big_quiet_step (fail))
        refine wpQuiet_nil ?_
        refine wpO_nil ?_
        rintro w2 b2' ⟨H8, H9⟩
        have b2 := kept_below b2'
        have HK2 := Lib.hid (blk_on b2 HK.out)
        have HR2 := Lib.hid (blk_on b2 HR.out)
        have HM2 := Lib.hid (HM.out.below b2)
        have HB2 := Lib.hid (HB.out.trans (b2.mono HB.out.size))
        have hs2 := b2.size
        have hgb := HM.out.base
        have hwr : w.heap.size + 1 < wr.heap.size := blk_in HR.out
        have H8' := Lib.hid H8
        have H9' := Lib.hid H9
        have hg8' := blk_in H8
        have hg9' := blk_in H9
        clear ft fk H8 H9 b2 HK HR HM HB
        have hd := drop_here HL.out hlt
        rw [HT.out] at hd
        have HD := Lib.hid hd
        clear hd
        obtain ⟨⟨a0, a1, a2, a3, a4⟩, p0, p1, p2, p3, p4⟩ := blk5 HK2.out
        cases is with
        | false =>
          obtain ⟨⟨b0, b1, b2, b3, b4⟩, q0, q1, q2, q3, q4⟩ := blk5 HR2.out
          have HE1 : Hid (putAllR ⟨⟨u, s, h, a⟩, no⟩ ss = ⟨⟨qu, qs, qh, qa⟩, qn⟩) := by show _ = _; rw [E1.out, HD.out, putAllR, hz]; rfl
          have HE2 : Hid (putAllL ⟨⟨u, s, h, a⟩, no⟩ ss = out) := by show _ = _; rw [E2.out, HD.out, putAllL, hz]; simp
          go_wp2
          refine row_ret2 (r := w.heap.size + 1) (cs := List.toArray (RowV.cells ⟨⟨qu, qs, qh, qa⟩, qn⟩)) rfl rfl rfl (setAll_whole (w := w2) (vs := RowV.cells ⟨⟨qu, qs, qh, qa⟩, qn⟩) HR2.out rfl) Tryz.underlying27 rfl (by kernel_rfl) rfl ⟨gb, cb, ?_, ?_, setAll_below (w := w2) (by omega) (RowV.cells ⟨⟨qu, qs, qh, qa⟩, qn⟩) 0 HB2.out⟩
          · rw [hr, if_pos rfl, if_pos rfl, HE1.out, HE2.out]; rfl
          · rw [hr, if_pos rfl, HE2.out]; exact (HM2.out.heap (setAll_off (w := w2) (g := w.heap.size + 1) (by omega) (RowV.cells ⟨⟨qu, qs, qh, qa⟩, qn⟩) 0)).mono (by omega)
        | true =>
          obtain ⟨ex, ey, hgo⟩ := put_true hz
          have HX : Hid (⟨⟨xu, xs, xh, xa⟩, xn⟩ = RowV.on ⟨⟨qu, qs, qh, qa⟩, qn⟩) := hx.symm.trans ex
          have HY : Hid (⟨⟨yu, ys, yh, ya⟩, yn, yt, yp⟩ = (⟨⟨qu, qs, qh, qa⟩, qn, t, false⟩ : BoxV)) := hy.symm.trans ey
          have hqo := rowOk_on hq hgo
          clear hx hy ex ey
          obtain ⟨⟨b0, b1, b2, b3, b4⟩, _⟩ := blk5 H8'.out
          obtain ⟨W3, hW3⟩ : ∃ W3, setAll w2 w.heap.size 0 (RowV.cells ⟨⟨xu, xs, xh, xa⟩, xn⟩) = W3 := ⟨_, rfl⟩
          have K3 : Hid (W3.heap[w.heap.size]? = some (.cells (List.toArray (RowV.cells ⟨⟨xu, xs, xh, xa⟩, xn⟩)) 27)) := by rw [← hW3]; exact setAll_whole HK2.out rfl
          have R3 : Hid (W3.heap[w.heap.size + 1]? = some (.cells (List.toArray RowV.zero.cells) 27)) := by rw [← hW3]; exact setAll_away (by omega) _ 0 HR2.out
          have Y3 : Hid (W3.heap[g9]? = some (.cells #[.int .i64 yu, .int .i64 ys, .int .i64 yh, .int .i64 ya, .int .i64 yn, .string yt, .bool yp] 32)) := by rw [← hW3]; exact setAll_away (by omega) _ 0 H9'.out
          have M3 : Hid (MadeB W3 (w.heap.size + 2) out gb cb) := by rw [← hW3]; exact HM2.out.heap (setAll_off (by omega) _ _)
          have B3 : Hid (Below w.heap.size w W3) := by rw [← hW3]; exact setAll_below (Nat.le_refl _) _ 0 HB2.out
          have s3 : w2.heap.size ≤ W3.heap.size := by rw [← hW3]; exact (setAll_below (B := 0) (a := w2) (Nat.zero_le _) _ 0 (Below.refl _ _)).size
          have hW : (((((w2.setCell ⟨w.heap.size, 0, none⟩ (.int .i64 xu)).setCell ⟨w.heap.size, 1, none⟩ (.int .i64 xs)).setCell ⟨w.heap.size, 2, none⟩ (.int .i64 xh)).setCell ⟨w.heap.size, 3, none⟩ (.int .i64 xa)).setCell ⟨w.heap.size, 4, none⟩ (.int .i64 xn)) = W3 := hW3
          obtain ⟨⟨d0, d1, d2, d3, d4, d5, d6⟩, _⟩ := blk7 Y3.out
          obtain ⟨i0, by0, hi, hz0, hz1, hz2, hby⟩ := infoBoxE
          clear hW3 HK2 HR2 HM2 HB2
          go_wp2_with (at_builtin; refine wpList_append_own _ rfl _ _ 52 rfl (w.heap.size + 2) 32 i0 BoxV.zero.val 7 by0 Tryz.underlying52 hi hz0 hz1 hz2 rfl (by decide) _ _ _ rfl (M3.out.own.alloc _) ⟨W3.heap.size, 0, none⟩ 1 1 (BoxV.cells ⟨⟨yu, ys, yh, ya⟩, yn, yt, yp⟩) rfl rfl (cells_new W3 (BoxV.cells ⟨⟨yu, ys, yh, ya⟩, yn, yt, yp⟩) _) (by simp [BoxV.cells, Value.oneCell']) (by unfold maxLen; omega) (by have : (out.length + 1) * by0 ≤ 1048577 * 100 := Nat.mul_le_mul (by omega) hby; omega) (by simp; omega) ?_; intro v' w3 hown' hgrow _; obtain ⟨gb', cb', rfl, hM'⟩ := MadeB.snoc hown'; have HM' := Lib.hid hM'; have HGR := Lib.hid hgrow; clear hown' hgrow hM')
          go_roundw
          case rel =>
            have hk1 : some (w.heap.size) ≠ some gb := by intro e; injection e with e; omega
            refine ⟨k + 1, by omega, by go_num, ⟨⟨xu, xs, xh, xa⟩, xn⟩, out ++ [⟨⟨yu, ys, yh, ya⟩, yn, yt, yp⟩], gb', cb', by simp, by rw [HX.out]; exact hqo, by simp; omega, ?_, ?_, HM'.out, ?_, ?_, ?_⟩
            · rw [E1.out, HD.out, putAllR, hz, HX.out]; rfl
            · rw [E2.out, HD.out, putAllL, hz, HX.out, HY.out]; simp
            · exact (HGR.out.block _ (by simp; omega) hk1).trans (alloc_blk K3.out)
            · exact (HGR.out.block _ (by simp; omega) (by intro e; have e1 := Option.some.inj e; dsimp only at e1; omega)).trans (alloc_blk R3.out)
            · exact (B3.out.alloc B3.out.size _).grown HGR.out (by simp; omega) (by intro k' e; have e1 := Option.some.inj e; dsimp only at e1; omega)
          case measure => simp [intOf]; omega
      · obtain rfl : k = n := by omega
        have hlt' : ¬ (k : Int) < (k : Int) := by omega
        have HD : Hid (ss.drop k = []) := List.drop_of_length_le (by rw [HL.out]; exact Nat.le_refl _)
        have HE1 : Hid (putAllR ⟨⟨u, s, h, a⟩, no⟩ ss = ⟨⟨qu, qs, qh, qa⟩, qn⟩) := by show _ = _; rw [E1.out, HD.out]; rfl
        have HE2 : Hid (putAllL ⟨⟨u, s, h, a⟩, no⟩ ss = out) := by show _ = _; rw [E2.out, HD.out]; simp [putAllL]
        have hgb := HM.out.base
        obtain ⟨⟨a0, a1, a2, a3, a4⟩, p0, p1, p2, p3, p4⟩ := blk5 HK.out
        obtain ⟨⟨b0, b1, b2, b3, b4⟩, q0, q1, q2, q3, q4⟩ := blk5 HR.out
        go_wp2
        refine row_ret2 (r := w.heap.size + 1) (cs := List.toArray (RowV.cells ⟨⟨qu, qs, qh, qa⟩, qn⟩)) rfl rfl rfl (setAll_whole (w := wr) (vs := RowV.cells ⟨⟨qu, qs, qh, qa⟩, qn⟩) HR.out rfl) Tryz.underlying27 rfl (by kernel_rfl) rfl ⟨gb, cb, ?_, ?_, setAll_below (w := wr) (by omega) (RowV.cells ⟨⟨qu, qs, qh, qa⟩, qn⟩) 0 HB.out⟩
        · rw [hr, if_pos rfl, if_pos rfl, HE1.out, HE2.out]; rfl
        · rw [hr, if_pos rfl, HE2.out]; exact (HM.out.heap (setAll_off (w := wr) (g := w.heap.size + 1) (by omega) (RowV.cells ⟨⟨qu, qs, qh, qa⟩, qn⟩) 0)).mono (by omega)


/-- Take of each in order, those that don't open left out: the row behind it, and the texts. -/
def takeAllR : RowV → List BoxV → RowV
  | r, [] => r
  | r, b :: l => if takeB r b then takeAllR r.on l else takeAllR r l
def takeAllL : RowV → List BoxV → List ByteArray
  | _, [] => []
  | r, b :: l => if takeB r b then b.t :: takeAllL r.on l else takeAllL r l
theorem takeAllL_length : ∀ (bs : List BoxV) (r : RowV), (takeAllL r bs).length ≤ bs.length
  | [], _ => Nat.le_refl _
  | b :: l, r => by
    unfold takeAllL
    split
    · simp only [List.length_cons]; have := takeAllL_length l r.on; omega
    · have := takeAllL_length l r; simp only [List.length_cons]; omega
/-- A list of strings that the call made. -/
abbrev MadeS (w : World) (base : Nat) (ss : List ByteArray) (gb cb : Nat) : Prop := MadeG w base 9 1 ss.length (ss.map Value.string) gb cb
theorem madeS_strs {w : World} {base : Nat} {ss : List ByteArray} {gb cb : Nat} (h : MadeS w base ss gb cb) : Strs w w.heap.size (some ⟨gb, 0, none⟩) ss.length ss :=
  ⟨rfl, fun _ => ⟨gb, 0, rfl, h.base.2, fun j hj => by
    rw [Nat.zero_add]
    exact h.cell (by rw [List.getElem?_map, List.getElem?_eq_getElem hj]; rfl)⟩⟩
theorem madeS_snoc {w : World} {base : Nat} {ss : List ByteArray} {s : ByteArray} {v : Value} (h : w.ownsRow base 9 1 v (ss.length + 1) (ss.map Value.string ++ [.string s])) :
    ∃ gb cb, v = .slice (some ⟨gb, 0, none⟩) (ss.length + 1) cb ∧ MadeS w base (ss ++ [s]) gb cb := by
  obtain ⟨gb, cb, e, hm⟩ := madeG_of h (by omega)
  refine ⟨gb, cb, e, ?_⟩
  have e1 : (ss ++ [s]).map Value.string = ss.map Value.string ++ [.string s] := by simp
  have e2 : (ss ++ [s]).length = ss.length + 1 := by simp
  unfold MadeS
  rw [e1, e2]
  exact hm
theorem take_true {q : RowV} {b : BoxV} (h : takeB q b = true) : takeR q b = q.on ∧ takeT q b = b.t ∧ goesB q = true := by
  have h0 := h
  simp only [takeB, Bool.and_eq_true] at h
  exact ⟨by simp [takeR, h0, h.1], by simp [takeT, h0], h.2.2⟩
theorem take_false {q : RowV} {b : BoxV} (hq : rowOkB q = true) (h : takeB q b = false) : takeR q b = q := by simp [takeR, h, hq]
theorem drop_hereB {bs : List BoxV} {k n : Nat} (hl : bs.length = n) (h : k < n) : bs.drop k = (bs[k]?.getD .zero) :: bs.drop (k + 1) := by
  have hk : k < bs.length := by omega
  rw [List.getElem?_eq_getElem hk, Option.getD_some]
  exact List.drop_eq_getElem_cons hk

/-- What TakeAll leaves. -/
def TakeAllOut (r : RowV) (bs : List BoxV) (w : World) (e : Ending) (w' : World) : Prop :=
  ∃ gb cb : Nat, e = .returned (.tuple #[(if rowOkB r then takeAllR r bs else .zero).val, .slice (some ⟨gb, 0, none⟩) (if rowOkB r then takeAllL r bs else []).length cb]) ∧ MadeS w' w.heap.size (if rowOkB r then takeAllL r bs else []) gb cb ∧ Below w.heap.size w w'

/-- What holds at the head of TakeAll's loop. -/
def TakeInv (r : RowV) (bs : List BoxV) (w : World) (k : Nat) (v : Value) (wr : World) : Prop :=
  ∃ (q : RowV) (out : List ByteArray) (gb cb : Nat), v = .slice (some ⟨gb, 0, none⟩) out.length cb ∧ rowOkB q = true ∧ out.length ≤ k ∧ takeAllR r bs = takeAllR q (bs.drop k) ∧ takeAllL r bs = out ++ takeAllL q (bs.drop k) ∧
    MadeS wr (w.heap.size + 2) out gb cb ∧ wr.heap[w.heap.size]? = some (.cells q.cells.toArray 27) ∧ wr.heap[w.heap.size + 1]? = some (.cells RowV.zero.cells.toArray 27) ∧ Below w.heap.size w wr

end Go.Proofs.YtchdmmlkgglmcaaGreatDoor.Tx

/-
  What the functions of chapter 11 of the model answer, and what toAnswer, szAnswer and eqAnswer of the laws do. Conditions: a box's text has at most 2^63 - 1 bytes; a pick is an int64.
-/
import Derived.Deep.DeepCutAuto
import Derived.Laws.CopyOwn
import Derived.Test.YtdnkpdfhnpmhbaaDoorBox
import Derived.Test.YtdnkpdfhnpmhbaaDoorAns0
import Derived.Test.YtdnkpdfhnpmhbaaDoorRegionR
namespace Go.Proofs.YtdnkpdfhnpmhbaaDoor.Tx
open Go.RowKit

theorem blk10 {w : World} {g : Nat} {v0 v1 v2 v3 v4 v5 v6 v7 v8 v9 : Value} {t : TypeId} (h : w.heap[g]? = some (.cells #[v0, v1, v2, v3, v4, v5, v6, v7, v8, v9] t (0, 0))) :
    (w.cell? ⟨g, 0, none⟩ = some v0 ∧ w.cell? ⟨g, 1, none⟩ = some v1 ∧ w.cell? ⟨g, 2, none⟩ = some v2 ∧ w.cell? ⟨g, 3, none⟩ = some v3 ∧ w.cell? ⟨g, 4, none⟩ = some v4 ∧ w.cell? ⟨g, 5, none⟩ = some v5 ∧ w.cell? ⟨g, 6, none⟩ = some v6 ∧ w.cell? ⟨g, 7, none⟩ = some v7 ∧ w.cell? ⟨g, 8, none⟩ = some v8 ∧ w.cell? ⟨g, 9, none⟩ = some v9) ∧
    (w.frozen? ⟨g, 0, none⟩ = false ∧ w.frozen? ⟨g, 1, none⟩ = false ∧ w.frozen? ⟨g, 2, none⟩ = false ∧ w.frozen? ⟨g, 3, none⟩ = false ∧ w.frozen? ⟨g, 4, none⟩ = false ∧ w.frozen? ⟨g, 5, none⟩ = false ∧ w.frozen? ⟨g, 6, none⟩ = false ∧ w.frozen? ⟨g, 7, none⟩ = false ∧ w.frozen? ⟨g, 8, none⟩ = false ∧ w.frozen? ⟨g, 9, none⟩ = false) :=
  ⟨⟨blk_cell h 0, blk_cell h 1, blk_cell h 2, blk_cell h 3, blk_cell h 4, blk_cell h 5, blk_cell h 6, blk_cell h 7, blk_cell h 8, blk_cell h 9⟩, blk_frozen h 0, blk_frozen h 1, blk_frozen h 2, blk_frozen h 3, blk_frozen h 4, blk_frozen h 5, blk_frozen h 6, blk_frozen h 7, blk_frozen h 8, blk_frozen h 9⟩
theorem setAll_size {g : Nat} : ∀ (vs : List Value) (k : Nat) (w : World), (setAll w g k vs).heap.size = w.heap.size
  | [], _, _ => rfl
  | v :: r, k, w => (setAll_size r (k + 1) _).trans (by simp [World.setCell])

set_option maxHeartbeats 8000000 in
theorem toAnswer_any (a : AnsV) (w : World) : Calls Tryd.prog 17 #[a.val] w fun e w' => e = .returned a.val ∧ Below w.heap.size w w' := by
  obtain ⟨ah, ad, ap, ⟨⟨xu, xs, xh, xa⟩, xn, xt, xp⟩⟩ := a
  have HV : Hid (AnsV.val ⟨ah, ad, ap, ⟨⟨xu, xs, xh, xa⟩, xn, xt, xp⟩⟩ = .agg #[.int .i64 ah, .int .i64 ad, .int .i64 ap, .int .i64 xu, .int .i64 xs, .int .i64 xh, .int .i64 xa, .int .i64 xn, .string xt, .bool xp]) := rfl
  rw [HV.out]
  go_enter Tryd.func17, Tryd.ntmps17
  go_wp2_with fail
  refine (toBox_any ⟨⟨xu, xs, xh, xa⟩, xn, xt, xp⟩ _).mono ?_
  rintro e w1 ⟨rfl, hb⟩
  have hx := blk_on hb (heap3a w _ _ _)
  have hr := blk_on hb (heap3b w _ _ _)
  have ho := blk_on hb (heap3c w _ _ _)
  have HR := Lib.hid hr
  have HO := Lib.hid ho
  have HB := Lib.hid (below_new3 hb)
  obtain ⟨⟨a0, a1, a2, a3, a4, a5, a6, a7, a8, a9⟩, _⟩ := blk10 hx
  obtain ⟨⟨c0, c1, c2, c3, c4, c5, c6, c7, c8, c9⟩, q0, q1, q2, q3, q4, q5, q6, q7, q8, q9⟩ := blk10 ho
  clear hb hx hr ho
  have HW : Hid (BoxV.val ⟨⟨xu, xs, xh, xa⟩, xn, xt, xp⟩ = .agg #[.int .i64 xu, .int .i64 xs, .int .i64 xh, .int .i64 xa, .int .i64 xn, .string xt, .bool xp]) := rfl
  rw [HW.out]
  go_upto_region 6 with fail
  clear a0 a1 a2 a3 a4 a5 a6 a7 a8 a9 c0 c1 c2 c3 c4 c5 c6 c7 c8 c9 q0 q1 q2 q3 q4 q5 q6 q7 q8 q9
  have hr := setAll_away (g := w.heap.size + 1 + 1) (by omega) [.int .i64 xu, .int .i64 xs, .int .i64 xh, .int .i64 xa, .int .i64 xn, .string xt, .bool xp] 3 HR.out
  have ho : (setAll w1 (w.heap.size + 1 + 1) 3 [.int .i64 xu, .int .i64 xs, .int .i64 xh, .int .i64 xa, .int .i64 xn, .string xt, .bool xp]).heap[w.heap.size + 1 + 1]? = some (.cells #[.int .i64 ah, .int .i64 ad, .int .i64 ap, .int .i64 xu, .int .i64 xs, .int .i64 xh, .int .i64 xa, .int .i64 xn, .string xt, .bool xp] 31) := by
    refine (setAll_blk _ _ HO.out).trans ?_
    refine congrArg (fun z => some (Obj.cells z 31 (0, 0))) (Array.toList_inj.1 ?_)
    rw [overA_toList _ _ _ (by simp)]
    rfl
  have HB3 := Lib.hid (setAll_below (g := w.heap.size + 1 + 1) (by omega) [.int .i64 xu, .int .i64 xs, .int .i64 xh, .int .i64 xa, .int .i64 xn, .string xt, .bool xp] 3 HB.out)
  show Code.wp _ _ _ _ (setAll w1 (w.heap.size + 1 + 1) 3 [.int .i64 xu, .int .i64 xs, .int .i64 xh, .int .i64 xa, .int .i64 xn, .string xt, .bool xp])
  generalize setAll w1 (w.heap.size + 1 + 1) 3 [.int .i64 xu, .int .i64 xs, .int .i64 xh, .int .i64 xa, .int .i64 xn, .string xt, .bool xp] = V at hr ho HB3 ⊢
  clear HR HO HB
  refine wp_region_lit ?_
  refine wpList_load_row rfl 31 (.tmp 3) rfl (w.heap.size + 1 + 1) rfl 31 _ (0, 0) _ ho Tryd.underlying31 rfl (by kernel_rfl) ?_
  refine wpList_store_row rfl 31 (.tmp 2) (.tmp 17) rfl (w.heap.size + 1) #[.int .i64 ah, .int .i64 ad, .int .i64 ap, .int .i64 xu, .int .i64 xs, .int .i64 xh, .int .i64 xa, .int .i64 xn, .string xt, .bool xp] rfl rfl 31 _ hr (by kernel_rfl) rfl (by simp [Value.oneCell']) ?_
  have HV3 := Lib.hid (setRow_heap _ _ _ #[.int .i64 ah, .int .i64 ad, .int .i64 ap, .int .i64 xu, .int .i64 xs, .int .i64 xh, .int .i64 xa, .int .i64 xn, .string xt, .bool xp] _ _ hr)
  have HB4 := Lib.hid (below_setRow HB3.out (g := w.heap.size + 1) (by omega) #[.int .i64 ah, .int .i64 ad, .int .i64 ap, .int .i64 xu, .int .i64 xs, .int .i64 xh, .int .i64 xa, .int .i64 xn, .string xt, .bool xp])
  clear hr ho HB3
  generalize V.setRow (w.heap.size + 1) #[.int .i64 ah, .int .i64 ad, .int .i64 ap, .int .i64 xu, .int .i64 xs, .int .i64 xh, .int .i64 xa, .int .i64 xn, .string xt, .bool xp] = V3 at HV3 HB4 ⊢
  go_wp2
  exact row_ret (cs := #[.int .i64 ah, .int .i64 ad, .int .i64 ap, .int .i64 xu, .int .i64 xs, .int .i64 xh, .int .i64 xa, .int .i64 xn, .string xt, .bool xp]) rfl rfl HV3.out Tryd.underlying31 rfl (by kernel_rfl) rfl ⟨rfl, HB4.out⟩

set_option maxHeartbeats 2000000 in
theorem szAnswer_any (a : AnsV) (hx : a.f.t.size ≤ 9223372036854775807) (left : Int) (h0 : 0 ≤ left) (h1 : left ≤ 1048576) (w : World) : Calls Tryd.prog 16 #[a.val, .int .i64 left] w fun e w' => ∃ l, e = .returned (.int .i64 l) ∧ Below w.heap.size w w' := by
  obtain ⟨ah, ad, ap, ⟨⟨xu, xs, xh, xa⟩, xn, xt, xp⟩⟩ := a
  have HV : Hid (AnsV.val ⟨ah, ad, ap, ⟨⟨xu, xs, xh, xa⟩, xn, xt, xp⟩⟩ = .agg #[.int .i64 ah, .int .i64 ad, .int .i64 ap, .int .i64 xu, .int .i64 xs, .int .i64 xh, .int .i64 xa, .int .i64 xn, .string xt, .bool xp]) := rfl
  rw [HV.out]
  dsimp only at hx
  obtain ⟨W, hW⟩ : ∃ W, w.alloc (.cells #[.int .i64 ah, .int .i64 ad, .int .i64 ap, .int .i64 xu, .int .i64 xs, .int .i64 xh, .int .i64 xa, .int .i64 xn, .string xt, .bool xp] 44) = W := ⟨_, rfl⟩
  have HB0 : Hid (Below w.heap.size w W) := by rw [← hW]; exact (Below.refl _ w).alloc (Nat.le_refl _) _
  obtain ⟨⟨a0, a1, a2, a3, a4, a5, a6, a7, a8, a9⟩, _⟩ := blk10 (show W.heap[w.heap.size]? = some (.cells #[.int .i64 ah, .int .i64 ad, .int .i64 ap, .int .i64 xu, .int .i64 xs, .int .i64 xh, .int .i64 xa, .int .i64 xn, .string xt, .bool xp] 44) by rw [← hW]; exact heap1 w _)
  go_enter Tryd.func16, Tryd.ntmps16
  go_wp2_with fail
  refine (szBox_any ⟨⟨xu, xs, xh, xa⟩, xn, xt, xp⟩ hx left (by omega) (by omega) _).mono ?_
  rintro e w1 ⟨rfl, hb1⟩
  have HB := Lib.hid (HB0.out.trans (hb1.mono HB0.out.size))
  clear hb1 a0 a1 a2 a3 a4 a5 a6 a7 a8 a9 hW
  dsimp only
  obtain ⟨l, hl⟩ : ∃ l, szLeft left xt.size = l := ⟨_, rfl⟩
  rw [hl]
  clear hl
  by_cases hn : l < 0
  · go_wp2
    go_ret
    first | exact ⟨_, rfl, HB.out⟩ | exact ⟨⟨_, rfl⟩, HB.out⟩
  · go_wp2
    go_ret
    first | exact ⟨_, rfl, HB.out⟩ | exact ⟨⟨_, rfl⟩, HB.out⟩

set_option maxHeartbeats 4000000 in
theorem eqAnswer_same (a : AnsV) (w : World) : Calls Tryd.prog 15 #[a.val, a.val] w fun e w' => e = .returned (.bool true) ∧ Below w.heap.size w w' := by
  obtain ⟨ah, ad, ap, ⟨⟨xu, xs, xh, xa⟩, xn, xt, xp⟩⟩ := a
  have HV : Hid (AnsV.val ⟨ah, ad, ap, ⟨⟨xu, xs, xh, xa⟩, xn, xt, xp⟩⟩ = .agg #[.int .i64 ah, .int .i64 ad, .int .i64 ap, .int .i64 xu, .int .i64 xs, .int .i64 xh, .int .i64 xa, .int .i64 xn, .string xt, .bool xp]) := rfl
  rw [HV.out]
  obtain ⟨W, hW⟩ : ∃ W, (w.alloc (.cells #[.int .i64 ah, .int .i64 ad, .int .i64 ap, .int .i64 xu, .int .i64 xs, .int .i64 xh, .int .i64 xa, .int .i64 xn, .string xt, .bool xp] 31)).alloc (.cells #[.int .i64 ah, .int .i64 ad, .int .i64 ap, .int .i64 xu, .int .i64 xs, .int .i64 xh, .int .i64 xa, .int .i64 xn, .string xt, .bool xp] 31) = W := ⟨_, rfl⟩
  have HB0 : Hid (Below w.heap.size w W) := by rw [← hW]; exact ((Below.refl _ w).alloc (Nat.le_refl _) _).alloc (by simp) _
  obtain ⟨⟨a0, a1, a2, a3, a4, a5, a6, a7, a8, a9⟩, _⟩ := blk10 (show W.heap[w.heap.size]? = some (.cells #[.int .i64 ah, .int .i64 ad, .int .i64 ap, .int .i64 xu, .int .i64 xs, .int .i64 xh, .int .i64 xa, .int .i64 xn, .string xt, .bool xp] 31) by rw [← hW]; exact heap2a w _ _)
  obtain ⟨⟨b0, b1, b2, b3, b4, b5, b6, b7, b8, b9⟩, _⟩ := blk10 (show W.heap[w.heap.size + 1]? = some (.cells #[.int .i64 ah, .int .i64 ad, .int .i64 ap, .int .i64 xu, .int .i64 xs, .int .i64 xh, .int .i64 xa, .int .i64 xn, .string xt, .bool xp] 31) by rw [← hW]; exact heap2b w _ _)
  go_enter Tryd.func15, Tryd.ntmps15
  go_wp2_with fail
  refine (eqBox_same ⟨⟨xu, xs, xh, xa⟩, xn, xt, xp⟩ _).mono ?_
  rintro e w1 ⟨rfl, hb⟩
  have HB2 := Lib.hid (HB0.out.trans (hb.mono HB0.out.size))
  clear hb hW a0 a1 a2 a3 a4 a5 a6 a7 a8 a9 b0 b1 b2 b3 b4 b5 b6 b7 b8 b9
  go_wp2
  go_ret
  exact ⟨rfl, HB2.out⟩

set_option maxHeartbeats 8000000 in
theorem AnswerOk_spec (a : AnsV) (w : World) : Calls Tryd.prog 14 #[a.val] w fun e w' => e = .returned (.bool (ansOkB a)) ∧ Below w.heap.size w w' := by
  obtain ⟨ah, ad, ap, ⟨⟨xu, xs, xh, xa⟩, xn, xt, xp⟩⟩ := a
  have HV : Hid (AnsV.val ⟨ah, ad, ap, ⟨⟨xu, xs, xh, xa⟩, xn, xt, xp⟩⟩ = .agg #[.int .i64 ah, .int .i64 ad, .int .i64 ap, .int .i64 xu, .int .i64 xs, .int .i64 xh, .int .i64 xa, .int .i64 xn, .string xt, .bool xp]) := rfl
  rw [HV.out]
  have HR : Hid (ansOkB ⟨ah, ad, ap, ⟨⟨xu, xs, xh, xa⟩, xn, xt, xp⟩⟩ = (isDrawB ah && (inB ap 1 4 && (if ap == 4 then ad == 0 && BoxV.isZ ⟨⟨xu, xs, xh, xa⟩, xn, xt, xp⟩ else isDrawB ad && boxOkB ⟨⟨xu, xs, xh, xa⟩, xn, xt, xp⟩)))) := rfl
  have hx := eq_box_zero xu xs xh xa xn xt xp
  have cH : Hid (∀ w' : World, Calls Tryd.prog 35 #[.int .i64 ah] w' fun e w'' => e = .returned (.bool (isDrawB ah)) ∧ Below w'.heap.size w' w'') := fun w' => by exact (IsDraw_spec ah w').mono fun _ _ ⟨he, hw⟩ => ⟨he, hw ▸ Below.refl _ _⟩
  have cD : Hid (∀ w' : World, Calls Tryd.prog 35 #[.int .i64 ad] w' fun e w'' => e = .returned (.bool (isDrawB ad)) ∧ Below w'.heap.size w' w'') := fun w' => by exact (IsDraw_spec ad w').mono fun _ _ ⟨he, hw⟩ => ⟨he, hw ▸ Below.refl _ _⟩
  have cP : Hid (∀ w' : World, Calls Tryd.prog 36 #[.int .i64 ap, .int .i64 1, .int .i64 4] w' fun e w'' => e = .returned (.bool (inB ap 1 4)) ∧ Below w'.heap.size w' w'') := fun w' => by exact (l1In_b ap 1 4 w').mono fun _ _ ⟨he, hw⟩ => ⟨he, hw ▸ Below.refl _ _⟩
  have cB : Hid (∀ w' : World, Calls Tryd.prog 37 #[.agg #[.int .i64 xu, .int .i64 xs, .int .i64 xh, .int .i64 xa, .int .i64 xn, .string xt, .bool xp]] w' fun e w'' => e = .returned (.bool (boxOkB ⟨⟨xu, xs, xh, xa⟩, xn, xt, xp⟩)) ∧ Below w'.heap.size w' w'') := fun w' => by exact BoxOk_spec ⟨⟨xu, xs, xh, xa⟩, xn, xt, xp⟩ w'
  generalize boxOkB ⟨⟨xu, xs, xh, xa⟩, xn, xt, xp⟩ = zb at HR cB
  generalize BoxV.isZ ⟨⟨xu, xs, xh, xa⟩, xn, xt, xp⟩ = zx at HR hx
  generalize isDrawB ah = zh at HR cH
  generalize isDrawB ad = zd at HR cD
  generalize inB ap 1 4 = zp at HR cP
  have HRa : Hid (ap = 4 → (if ap == 4 then ad == 0 && zx else zd && zb) = (ad == 0 && zx)) := fun h => by rw [beq_int h]; rfl
  have HRb : Hid (ap ≠ 4 → (if ap == 4 then ad == 0 && zx else zd && zb) = (zd && zb)) := fun h => by rw [bne_int h]; rfl
  rw [HR.out]
  generalize (if ap == 4 then ad == 0 && zx else zd && zb) = last at HRa HRb ⊢
  clear HR HV
  obtain ⟨W0, hW0⟩ : ∃ W, w.alloc (.cells #[.int .i64 ah, .int .i64 ad, .int .i64 ap, .int .i64 xu, .int .i64 xs, .int .i64 xh, .int .i64 xa, .int .i64 xn, .string xt, .bool xp] 31) = W := ⟨_, rfl⟩
  have K0 : Hid (Below w.heap.size w W0) := by rw [← hW0]; exact (Below.refl _ w).alloc (Nat.le_refl _) _
  have A0 : Hid (W0.heap[w.heap.size]? = some (.cells #[.int .i64 ah, .int .i64 ad, .int .i64 ap, .int .i64 xu, .int .i64 xs, .int .i64 xh, .int .i64 xa, .int .i64 xn, .string xt, .bool xp] 31)) := by rw [← hW0]; exact heap1 w _
  obtain ⟨⟨a0, a1, a2, a3, a4, a5, a6, a7, a8, a9⟩, _⟩ := blk10 A0.out
  go_enter Tryd.func14, Tryd.ntmps14
  go_wp2_with fail
  clear a0 a1 a2 a3 a4 a5 a6 a7 a8 a9
  clear hW0
  refine (cH.out _).mono ?_
  rintro e w1 ⟨rfl, hb⟩
  have A1 := Lib.hid (blk_on hb A0.out)
  have K1 := Lib.hid (K0.out.trans (hb.mono K0.out.size))
  clear hb A0 K0
  cases zh with
  | false =>
    go_wp2
    go_ret
    exact ⟨rfl, K1.out⟩
  | true =>
    obtain ⟨⟨a0, a1, a2, a3, a4, a5, a6, a7, a8, a9⟩, _⟩ := blk10 A1.out
    go_wp2_with fail
    clear a0 a1 a2 a3 a4 a5 a6 a7 a8 a9
    refine (cP.out _).mono ?_
    rintro e w2 ⟨rfl, hb⟩
    have A2 := Lib.hid (blk_on hb A1.out)
    have K2 := Lib.hid (K1.out.trans (hb.mono K1.out.size))
    clear hb A1 K1
    cases zp with
    | false =>
      go_wp2
      go_ret
      exact ⟨rfl, K2.out⟩
    | true =>
      obtain ⟨⟨a0, a1, a2, a3, a4, a5, a6, a7, a8, a9⟩, _⟩ := blk10 A2.out
      by_cases hp : ap = 4
      ·
        have hp' : (ap == 4) = true := by simpa using hp
        have HR1 := Lib.hid (HRa.out hp)
        cases hd : ad == 0
        ·
          rw [hd] at HR1
          go_wp2_with fail
          go_ret
          exact ⟨by rw [HR1.out]; rfl, K2.out⟩
        ·
          rw [hd] at HR1
          go_wp2_with fail
          go_ret
          exact ⟨by rw [HR1.out]; rfl, K2.out⟩
      ·
        have hp' : (ap == 4) = false := by simpa using hp
        have HR1 := Lib.hid (HRb.out hp)
        go_wp2_with fail
        clear a0 a1 a2 a3 a4 a5 a6 a7 a8 a9
        refine (cD.out _).mono ?_
        rintro e w3 ⟨rfl, hb⟩
        have A3 := Lib.hid (blk_on hb A2.out)
        have K3 := Lib.hid (K2.out.trans (hb.mono K2.out.size))
        clear hb A2 K2
        cases zd with
        | false =>
          go_wp2_with fail
          go_ret
          exact ⟨by rw [HR1.out]; rfl, K3.out⟩
        | true =>
          obtain ⟨⟨a0, a1, a2, a3, a4, a5, a6, a7, a8, a9⟩, _⟩ := blk10 A3.out
          go_wp2_with fail
          clear a0 a1 a2 a3 a4 a5 a6 a7 a8 a9
          refine (cB.out _).mono ?_
          rintro e w4 ⟨rfl, hb⟩
          have A4 := Lib.hid (blk_on hb A3.out)
          have K4 := Lib.hid (K3.out.trans (hb.mono K3.out.size))
          clear hb A3 K3
          go_wp2_with fail
          go_ret
          exact ⟨by rw [HR1.out]; rfl, K4.out⟩

theorem l11Goes_any (p s : Int) (w : World) : Calls Tryd.prog 33 #[.int .i64 p, .int .i64 s] w fun e w' => e = .returned (.bool (goesB p s)) ∧ Below w.heap.size w w' := by
  by_cases h1 : p = 1
  · subst h1
    have HR : Hid (goesB 1 s = (s == 0)) := rfl
    go_enter Tryd.func33, Tryd.ntmps33
    go_wp2
    go_ret
    exact ⟨by rw [HR.out]; rfl, Below.refl _ _⟩
  · have h1' : (p == 1) = false := by simpa using h1
    by_cases h2 : p = 2
    · subst h2
      have HR : Hid (goesB 2 s = isDrawB s) := by show _ = _; simp [goesB]
      go_enter Tryd.func33, Tryd.ntmps33
      go_wp2_with fail
      refine (IsDraw_spec s _).mono ?_
      rintro e w' ⟨rfl, rfl⟩
      go_wp2
      go_ret
      exact ⟨by rw [HR.out]; rfl, Below.refl _ _⟩
    · have h2' : (p == 2) = false := by simpa using h2
      by_cases h3 : p = 3
      · subst h3
        have HR : Hid (goesB 3 s = isDrawB s) := by show _ = _; simp [goesB]
        go_enter Tryd.func33, Tryd.ntmps33
        go_wp2_with fail
        refine (IsDraw_spec s _).mono ?_
        rintro e w' ⟨rfl, rfl⟩
        go_wp2
        go_ret
        exact ⟨by rw [HR.out]; rfl, Below.refl _ _⟩
      · have h3' : (p == 3) = false := by simpa using h3
        have HR : Hid (goesB p s = false) := by show _ = _; rw [goesB, h1', h2', h3']; rfl
        go_enter Tryd.func33, Tryd.ntmps33
        go_wp2
        go_ret
        exact ⟨by rw [HR.out]; rfl, Below.refl _ _⟩

end Go.Proofs.YtdnkpdfhnpmhbaaDoor.Tx

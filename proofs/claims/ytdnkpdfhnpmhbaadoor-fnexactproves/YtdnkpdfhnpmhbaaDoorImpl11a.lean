/-
  The program's answers by their shapes, and what AnswerOk of the program answers. No conditions.
-/
import Derived.Test.YtdnkpdfhnpmhbaaDoorAns
import Derived.Test.YtdnkpdfhnpmhbaaDoorImpl4
namespace Go.Proofs.YtdnkpdfhnpmhbaaDoor.Tx
open Go.RowKit

/-- The shape of an answer. -/
def shapeV (a : AnsV) : Value := if a.p == 1 then .iface 65 a.val else if a.p == 2 then .iface 67 a.val else if a.p == 3 then .iface 67 a.val else if a.p == 4 then .iface 68 a.val else .nilIface
/-- Is one with a Fin right? One with nothing else in it? -/
def finRight (a : AnsV) : Bool := isDrawB a.h && (isDrawB a.d && boxOkB a.f)
def againRight (a : AnsV) : Bool := isDrawB a.h && (a.d == 0 && a.f.isZ)
theorem shape_cases (a : AnsV) : (shapeV a = .iface 65 a.val ∧ a.p = 1) ∨ (shapeV a = .iface 67 a.val ∧ (a.p = 2 ∨ a.p = 3)) ∨ (shapeV a = .iface 68 a.val ∧ a.p = 4) ∨ (shapeV a = .nilIface ∧ ¬ (1 ≤ a.p ∧ a.p ≤ 4)) := by
  by_cases h1 : a.p = 1
  · exact .inl ⟨by rw [shapeV, beq_int h1]; rfl, h1⟩
  by_cases h2 : a.p = 2
  · exact .inr (.inl ⟨by rw [shapeV, bne_int h1, beq_int h2]; rfl, .inl h2⟩)
  by_cases h3 : a.p = 3
  · exact .inr (.inl ⟨by rw [shapeV, bne_int h1, bne_int h2, beq_int h3]; rfl, .inr h3⟩)
  by_cases h4 : a.p = 4
  · exact .inr (.inr (.inl ⟨by rw [shapeV, bne_int h1, bne_int h2, bne_int h3, beq_int h4]; rfl, h4⟩))
  exact .inr (.inr (.inr ⟨by rw [shapeV, bne_int h1, bne_int h2, bne_int h3, bne_int h4]; rfl, by omega⟩))
theorem ok_fin {a : AnsV} (h : 1 ≤ a.p ∧ a.p ≤ 3) : ansOkB a = finRight a := by
  rw [ansOkB, finRight, inB_mk (by omega), bne_int (show a.p ≠ 4 by omega)]; simp
theorem ok_again {a : AnsV} (h : a.p = 4) : ansOkB a = againRight a := by
  rw [ansOkB, againRight, inB_mk (by omega), beq_int h]; simp
theorem ok_none {a : AnsV} (h : ¬ (1 ≤ a.p ∧ a.p ≤ 4)) : ansOkB a = false := by
  rw [ansOkB, inB_no (by omega)]; simp

set_option maxHeartbeats 4000000 in
theorem shapeOf_any (a : AnsV) (w : World) : Calls Tryd.prog 27 #[a.val] w fun e w' => e = .returned (shapeV a) ∧ Below w.heap.size w w' := by
  obtain ⟨ah, ad, ap, ⟨⟨xu, xs, xh, xa⟩, xn, xt, xp⟩⟩ := a
  have HV : Hid (AnsV.val ⟨ah, ad, ap, ⟨⟨xu, xs, xh, xa⟩, xn, xt, xp⟩⟩ = .agg #[.int .i64 ah, .int .i64 ad, .int .i64 ap, .int .i64 xu, .int .i64 xs, .int .i64 xh, .int .i64 xa, .int .i64 xn, .string xt, .bool xp]) := rfl
  rw [HV.out]
  clear HV
  obtain ⟨W0, hW0⟩ : ∃ W, w.alloc (.cells #[.int .i64 ah, .int .i64 ad, .int .i64 ap, .int .i64 xu, .int .i64 xs, .int .i64 xh, .int .i64 xa, .int .i64 xn, .string xt, .bool xp] 31) = W := ⟨_, rfl⟩
  have K0 : Hid (Below w.heap.size w W0) := by rw [← hW0]; exact (Below.refl _ w).alloc (Nat.le_refl _) _
  have A0 : Hid (W0.heap[w.heap.size]? = some (.cells #[.int .i64 ah, .int .i64 ad, .int .i64 ap, .int .i64 xu, .int .i64 xs, .int .i64 xh, .int .i64 xa, .int .i64 xn, .string xt, .bool xp] 31)) := by rw [← hW0]; exact heap1 w _
  obtain ⟨⟨a0, a1, a2, a3, a4, a5, a6, a7, a8, a9⟩, _⟩ := blk10 A0.out
  go_enter Tryd.func27, Tryd.ntmps27
  by_cases h1 : ap = 1
  ·
    have HE : Hid (shapeV ⟨ah, ad, ap, ⟨⟨xu, xs, xh, xa⟩, xn, xt, xp⟩⟩ = .iface 65 (.agg #[.int .i64 ah, .int .i64 ad, .int .i64 ap, .int .i64 xu, .int .i64 xs, .int .i64 xh, .int .i64 xa, .int .i64 xn, .string xt, .bool xp])) := by show _ = _; rw [shapeV]; dsimp only; rw [beq_int h1]; rfl
    have h1q : (ap == 1) = true := beq_int h1
    clear h1
    go_wp2_with (refine wpList_load_row rfl 31 _ rfl (w.heap.size) rfl 31 _ (0, 0) _ A0.out Tryd.underlying31 rfl (by kernel_rfl) ?_)
    go_ret
    exact ⟨by rw [HE.out]; rfl, K0.out⟩
  ·
    have h1q : (ap == 1) = false := bne_int h1
    by_cases h2 : ap = 2
    ·
      have HE : Hid (shapeV ⟨ah, ad, ap, ⟨⟨xu, xs, xh, xa⟩, xn, xt, xp⟩⟩ = .iface 67 (.agg #[.int .i64 ah, .int .i64 ad, .int .i64 ap, .int .i64 xu, .int .i64 xs, .int .i64 xh, .int .i64 xa, .int .i64 xn, .string xt, .bool xp])) := by show _ = _; rw [shapeV]; dsimp only; rw [h1q, beq_int h2]; rfl
      have h2q : (ap == 2) = true := beq_int h2
      clear h2 h1
      go_wp2_with (refine wpList_load_row rfl 31 _ rfl (w.heap.size) rfl 31 _ (0, 0) _ A0.out Tryd.underlying31 rfl (by kernel_rfl) ?_)
      go_ret
      exact ⟨by rw [HE.out]; rfl, K0.out⟩
    ·
      have h2q : (ap == 2) = false := bne_int h2
      by_cases h3 : ap = 3
      ·
        have HE : Hid (shapeV ⟨ah, ad, ap, ⟨⟨xu, xs, xh, xa⟩, xn, xt, xp⟩⟩ = .iface 67 (.agg #[.int .i64 ah, .int .i64 ad, .int .i64 ap, .int .i64 xu, .int .i64 xs, .int .i64 xh, .int .i64 xa, .int .i64 xn, .string xt, .bool xp])) := by show _ = _; rw [shapeV]; dsimp only; rw [h1q, h2q, beq_int h3]; rfl
        have h3q : (ap == 3) = true := beq_int h3
        clear h3 h2 h1
        go_wp2_with (refine wpList_load_row rfl 31 _ rfl (w.heap.size) rfl 31 _ (0, 0) _ A0.out Tryd.underlying31 rfl (by kernel_rfl) ?_)
        go_ret
        exact ⟨by rw [HE.out]; rfl, K0.out⟩
      ·
        have h3q : (ap == 3) = false := bne_int h3
        by_cases h4 : ap = 4
        ·
          have HE : Hid (shapeV ⟨ah, ad, ap, ⟨⟨xu, xs, xh, xa⟩, xn, xt, xp⟩⟩ = .iface 68 (.agg #[.int .i64 ah, .int .i64 ad, .int .i64 ap, .int .i64 xu, .int .i64 xs, .int .i64 xh, .int .i64 xa, .int .i64 xn, .string xt, .bool xp])) := by show _ = _; rw [shapeV]; dsimp only; rw [h1q, h2q, h3q, beq_int h4]; rfl
          have h4q : (ap == 4) = true := beq_int h4
          clear h4 h3 h2 h1
          go_wp2_with (refine wpList_load_row rfl 31 _ rfl (w.heap.size) rfl 31 _ (0, 0) _ A0.out Tryd.underlying31 rfl (by kernel_rfl) ?_)
          go_ret
          exact ⟨by rw [HE.out]; rfl, K0.out⟩
        ·
          have h4q : (ap == 4) = false := bne_int h4
          have HE : Hid (shapeV ⟨ah, ad, ap, ⟨⟨xu, xs, xh, xa⟩, xn, xt, xp⟩⟩ = .nilIface) := by show _ = _; rw [shapeV]; dsimp only; rw [h1q, h2q, h3q, h4q]; rfl
          go_wp2_with (refine wpList_load_row rfl 31 _ rfl (w.heap.size) rfl 31 _ (0, 0) _ A0.out Tryd.underlying31 rfl (by kernel_rfl) ?_)
          go_ret
          exact ⟨by rw [HE.out]; rfl, K0.out⟩

set_option maxHeartbeats 4000000 in
theorem finRight_any (a : AnsV) (w : World) : Calls Tryd.prog 93 #[a.val] w fun e w' => e = .returned (.bool (finRight a)) ∧ Below w.heap.size w w' := by
  obtain ⟨ah, ad, ap, ⟨⟨xu, xs, xh, xa⟩, xn, xt, xp⟩⟩ := a
  have HV : Hid (AnsV.val ⟨ah, ad, ap, ⟨⟨xu, xs, xh, xa⟩, xn, xt, xp⟩⟩ = .agg #[.int .i64 ah, .int .i64 ad, .int .i64 ap, .int .i64 xu, .int .i64 xs, .int .i64 xh, .int .i64 xa, .int .i64 xn, .string xt, .bool xp]) := rfl
  rw [HV.out]
  have HR : Hid (finRight ⟨ah, ad, ap, ⟨⟨xu, xs, xh, xa⟩, xn, xt, xp⟩⟩ = (isDrawB ah && (isDrawB ad && boxOkB ⟨⟨xu, xs, xh, xa⟩, xn, xt, xp⟩))) := rfl
  have cH : Hid (∀ w' : World, Calls Tryd.prog 29 #[.int .i64 ah] w' fun e w'' => e = .returned (.bool (isDrawB ah)) ∧ Below w'.heap.size w' w'') := fun w' => by exact IsDraw_impl ah w'
  have cD : Hid (∀ w' : World, Calls Tryd.prog 29 #[.int .i64 ad] w' fun e w'' => e = .returned (.bool (isDrawB ad)) ∧ Below w'.heap.size w' w'') := fun w' => by exact IsDraw_impl ad w'
  have cB : Hid (∀ w' : World, Calls Tryd.prog 43 #[.agg #[.int .i64 xu, .int .i64 xs, .int .i64 xh, .int .i64 xa, .int .i64 xn, .string xt, .bool xp]] w' fun e w'' => e = .returned (.bool (boxOkB ⟨⟨xu, xs, xh, xa⟩, xn, xt, xp⟩)) ∧ Below w'.heap.size w' w'') := fun w' => by exact BoxOk_impl ⟨⟨xu, xs, xh, xa⟩, xn, xt, xp⟩ w'
  generalize boxOkB ⟨⟨xu, xs, xh, xa⟩, xn, xt, xp⟩ = zb at HR cB
  generalize isDrawB ah = zh at HR cH
  generalize isDrawB ad = zd at HR cD
  rw [HR.out]
  clear HR HV
  obtain ⟨W0, hW0⟩ : ∃ W, w.alloc (.cells #[.int .i64 ah, .int .i64 ad, .int .i64 ap, .int .i64 xu, .int .i64 xs, .int .i64 xh, .int .i64 xa, .int .i64 xn, .string xt, .bool xp] 63) = W := ⟨_, rfl⟩
  have K0 : Hid (Below w.heap.size w W0) := by rw [← hW0]; exact (Below.refl _ w).alloc (Nat.le_refl _) _
  have A0 : Hid (W0.heap[w.heap.size]? = some (.cells #[.int .i64 ah, .int .i64 ad, .int .i64 ap, .int .i64 xu, .int .i64 xs, .int .i64 xh, .int .i64 xa, .int .i64 xn, .string xt, .bool xp] 63)) := by rw [← hW0]; exact heap1 w _
  obtain ⟨⟨a0, a1, a2, a3, a4, a5, a6, a7, a8, a9⟩, _⟩ := blk10 A0.out
  go_enter Tryd.func93, Tryd.ntmps93
  go_wp2_with fail
  clear a0 a1 a2 a3 a4 a5 a6 a7 a8 a9
  clear hW0
  refine (cH.out _).mono ?_
  rintro e w1 ⟨rfl, hb⟩
  have A1 := Lib.hid (blk_on hb A0.out)
  have K1 := Lib.hid (K0.out.trans (hb.mono K0.out.size))
  clear hb A0 K0
  cases zh with
  | false =>
    go_wp2
    go_ret
    exact ⟨rfl, K1.out⟩
  | true =>
    obtain ⟨⟨a0, a1, a2, a3, a4, a5, a6, a7, a8, a9⟩, _⟩ := blk10 A1.out
    go_wp2_with fail
    clear a0 a1 a2 a3 a4 a5 a6 a7 a8 a9
    refine (cD.out _).mono ?_
    rintro e w2 ⟨rfl, hb⟩
    have A2 := Lib.hid (blk_on hb A1.out)
    have K2 := Lib.hid (K1.out.trans (hb.mono K1.out.size))
    clear hb A1 K1
    cases zd with
    | false =>
      go_wp2
      go_ret
      exact ⟨rfl, K2.out⟩
    | true =>
      obtain ⟨⟨a0, a1, a2, a3, a4, a5, a6, a7, a8, a9⟩, _⟩ := blk10 A2.out
      go_wp2_with fail
      clear a0 a1 a2 a3 a4 a5 a6 a7 a8 a9
      refine (cB.out _).mono ?_
      rintro e w3 ⟨rfl, hb⟩
      have A3 := Lib.hid (blk_on hb A2.out)
      have K3 := Lib.hid (K2.out.trans (hb.mono K2.out.size))
      clear hb A2 K2
      go_wp2
      go_ret
      exact ⟨rfl, K3.out⟩

set_option maxHeartbeats 4000000 in
theorem againRight_any (a : AnsV) (w : World) : Calls Tryd.prog 94 #[a.val] w fun e w' => e = .returned (.bool (againRight a)) ∧ Below w.heap.size w w' := by
  obtain ⟨ah, ad, ap, ⟨⟨xu, xs, xh, xa⟩, xn, xt, xp⟩⟩ := a
  have HV : Hid (AnsV.val ⟨ah, ad, ap, ⟨⟨xu, xs, xh, xa⟩, xn, xt, xp⟩⟩ = .agg #[.int .i64 ah, .int .i64 ad, .int .i64 ap, .int .i64 xu, .int .i64 xs, .int .i64 xh, .int .i64 xa, .int .i64 xn, .string xt, .bool xp]) := rfl
  rw [HV.out]
  have HR : Hid (againRight ⟨ah, ad, ap, ⟨⟨xu, xs, xh, xa⟩, xn, xt, xp⟩⟩ = (isDrawB ah && (ad == 0 && BoxV.isZ ⟨⟨xu, xs, xh, xa⟩, xn, xt, xp⟩))) := rfl
  have cH : Hid (∀ w' : World, Calls Tryd.prog 29 #[.int .i64 ah] w' fun e w'' => e = .returned (.bool (isDrawB ah)) ∧ Below w'.heap.size w' w'') := fun w' => by exact IsDraw_impl ah w'
  generalize isDrawB ah = zh at HR cH
  rw [HR.out]
  clear HR HV
  obtain ⟨W0, hW0⟩ : ∃ W, w.alloc (.cells #[.int .i64 ah, .int .i64 ad, .int .i64 ap, .int .i64 xu, .int .i64 xs, .int .i64 xh, .int .i64 xa, .int .i64 xn, .string xt, .bool xp] 68) = W := ⟨_, rfl⟩
  have K0 : Hid (Below w.heap.size w W0) := by rw [← hW0]; exact (Below.refl _ w).alloc (Nat.le_refl _) _
  have A0 : Hid (W0.heap[w.heap.size]? = some (.cells #[.int .i64 ah, .int .i64 ad, .int .i64 ap, .int .i64 xu, .int .i64 xs, .int .i64 xh, .int .i64 xa, .int .i64 xn, .string xt, .bool xp] 68)) := by rw [← hW0]; exact heap1 w _
  obtain ⟨⟨a0, a1, a2, a3, a4, a5, a6, a7, a8, a9⟩, _⟩ := blk10 A0.out
  go_enter Tryd.func94, Tryd.ntmps94
  go_wp2_with fail
  clear a0 a1 a2 a3 a4 a5 a6 a7 a8 a9
  clear hW0
  refine (cH.out _).mono ?_
  rintro e w1 ⟨rfl, hb⟩
  have A1 := Lib.hid (blk_on hb A0.out)
  have K1 := Lib.hid (K0.out.trans (hb.mono K0.out.size))
  clear hb A0 K0
  cases zh with
  | false =>
    go_wp2
    go_ret
    exact ⟨rfl, K1.out⟩
  | true =>
    obtain ⟨⟨a0, a1, a2, a3, a4, a5, a6, a7, a8, a9⟩, _⟩ := blk10 A1.out
    have hz := eq_ans_again ah ad ap xu xs xh xa xn xt xp
    go_wp2
    go_ret
    exact ⟨rfl, K1.out⟩

set_option maxRecDepth 100000 in
set_option maxHeartbeats 8000000 in
theorem AnswerOk_impl (a : AnsV) (w : World) : Calls Tryd.prog 13 #[a.val] w fun e w' => e = .returned (.bool (ansOkB a)) ∧ Below w.heap.size w w' := by
  have hs1 : Hid (1 ≤ a.p ∧ a.p ≤ 3 → ansOkB a = finRight a) := fun h => ok_fin h
  have hs2 : Hid (a.p = 4 → ansOkB a = againRight a) := fun h => ok_again h
  have hs3 : Hid (¬ (1 ≤ a.p ∧ a.p ≤ 4) → ansOkB a = false) := fun h => ok_none h
  obtain ⟨ah, ad, ap, ⟨⟨xu, xs, xh, xa⟩, xn, xt, xp⟩⟩ := a
  have HV : Hid (AnsV.val ⟨ah, ad, ap, ⟨⟨xu, xs, xh, xa⟩, xn, xt, xp⟩⟩ = .agg #[.int .i64 ah, .int .i64 ad, .int .i64 ap, .int .i64 xu, .int .i64 xs, .int .i64 xh, .int .i64 xa, .int .i64 xn, .string xt, .bool xp]) := rfl
  rw [HV.out]
  dsimp only at hs1 hs2 hs3
  have hc : (shapeV ⟨ah, ad, ap, ⟨⟨xu, xs, xh, xa⟩, xn, xt, xp⟩⟩ = .iface 65 (.agg #[.int .i64 ah, .int .i64 ad, .int .i64 ap, .int .i64 xu, .int .i64 xs, .int .i64 xh, .int .i64 xa, .int .i64 xn, .string xt, .bool xp]) ∧ ansOkB ⟨ah, ad, ap, ⟨⟨xu, xs, xh, xa⟩, xn, xt, xp⟩⟩ = finRight ⟨ah, ad, ap, ⟨⟨xu, xs, xh, xa⟩, xn, xt, xp⟩⟩) ∨ (shapeV ⟨ah, ad, ap, ⟨⟨xu, xs, xh, xa⟩, xn, xt, xp⟩⟩ = .iface 67 (.agg #[.int .i64 ah, .int .i64 ad, .int .i64 ap, .int .i64 xu, .int .i64 xs, .int .i64 xh, .int .i64 xa, .int .i64 xn, .string xt, .bool xp]) ∧ ansOkB ⟨ah, ad, ap, ⟨⟨xu, xs, xh, xa⟩, xn, xt, xp⟩⟩ = finRight ⟨ah, ad, ap, ⟨⟨xu, xs, xh, xa⟩, xn, xt, xp⟩⟩) ∨ (shapeV ⟨ah, ad, ap, ⟨⟨xu, xs, xh, xa⟩, xn, xt, xp⟩⟩ = .iface 68 (.agg #[.int .i64 ah, .int .i64 ad, .int .i64 ap, .int .i64 xu, .int .i64 xs, .int .i64 xh, .int .i64 xa, .int .i64 xn, .string xt, .bool xp]) ∧ ansOkB ⟨ah, ad, ap, ⟨⟨xu, xs, xh, xa⟩, xn, xt, xp⟩⟩ = againRight ⟨ah, ad, ap, ⟨⟨xu, xs, xh, xa⟩, xn, xt, xp⟩⟩) ∨ (shapeV ⟨ah, ad, ap, ⟨⟨xu, xs, xh, xa⟩, xn, xt, xp⟩⟩ = .nilIface ∧ ansOkB ⟨ah, ad, ap, ⟨⟨xu, xs, xh, xa⟩, xn, xt, xp⟩⟩ = false) := by
    rcases shape_cases ⟨ah, ad, ap, ⟨⟨xu, xs, xh, xa⟩, xn, xt, xp⟩⟩ with ⟨hq, h⟩ | ⟨hq, h⟩ | ⟨hq, h⟩ | ⟨hq, h⟩
    · exact .inl ⟨hq, hs1.out (by dsimp only at h; omega)⟩
    · exact .inr (.inl ⟨hq, hs1.out (by dsimp only at h; omega)⟩)
    · exact .inr (.inr (.inl ⟨hq, hs2.out h⟩))
    · exact .inr (.inr (.inr ⟨hq, hs3.out h⟩))
  have HC := Lib.hid hc
  clear hc hs1 hs2 hs3
  have cS : Hid (∀ w' : World, Calls Tryd.prog 27 #[.agg #[.int .i64 ah, .int .i64 ad, .int .i64 ap, .int .i64 xu, .int .i64 xs, .int .i64 xh, .int .i64 xa, .int .i64 xn, .string xt, .bool xp]] w' fun e w'' => e = .returned (shapeV ⟨ah, ad, ap, ⟨⟨xu, xs, xh, xa⟩, xn, xt, xp⟩⟩) ∧ Below w'.heap.size w' w'') := fun w' => by exact shapeOf_any ⟨ah, ad, ap, ⟨⟨xu, xs, xh, xa⟩, xn, xt, xp⟩⟩ w'
  have cF : Hid (∀ w' : World, Calls Tryd.prog 93 #[.agg #[.int .i64 ah, .int .i64 ad, .int .i64 ap, .int .i64 xu, .int .i64 xs, .int .i64 xh, .int .i64 xa, .int .i64 xn, .string xt, .bool xp]] w' fun e w'' => e = .returned (.bool (finRight ⟨ah, ad, ap, ⟨⟨xu, xs, xh, xa⟩, xn, xt, xp⟩⟩)) ∧ Below w'.heap.size w' w'') := fun w' => by exact finRight_any ⟨ah, ad, ap, ⟨⟨xu, xs, xh, xa⟩, xn, xt, xp⟩⟩ w'
  have cA : Hid (∀ w' : World, Calls Tryd.prog 94 #[.agg #[.int .i64 ah, .int .i64 ad, .int .i64 ap, .int .i64 xu, .int .i64 xs, .int .i64 xh, .int .i64 xa, .int .i64 xn, .string xt, .bool xp]] w' fun e w'' => e = .returned (.bool (againRight ⟨ah, ad, ap, ⟨⟨xu, xs, xh, xa⟩, xn, xt, xp⟩⟩)) ∧ Below w'.heap.size w' w'') := fun w' => by exact againRight_any ⟨ah, ad, ap, ⟨⟨xu, xs, xh, xa⟩, xn, xt, xp⟩⟩ w'
  generalize shapeV ⟨ah, ad, ap, ⟨⟨xu, xs, xh, xa⟩, xn, xt, xp⟩⟩ = sv at HC cS
  generalize finRight ⟨ah, ad, ap, ⟨⟨xu, xs, xh, xa⟩, xn, xt, xp⟩⟩ = zf at HC cF
  generalize againRight ⟨ah, ad, ap, ⟨⟨xu, xs, xh, xa⟩, xn, xt, xp⟩⟩ = za at HC cA
  generalize ansOkB ⟨ah, ad, ap, ⟨⟨xu, xs, xh, xa⟩, xn, xt, xp⟩⟩ = ok at HC ⊢
  clear HV
  obtain ⟨W0, hW0⟩ : ∃ W, w.alloc (.cells #[.int .i64 ah, .int .i64 ad, .int .i64 ap, .int .i64 xu, .int .i64 xs, .int .i64 xh, .int .i64 xa, .int .i64 xn, .string xt, .bool xp] 31) = W := ⟨_, rfl⟩
  have K0 : Hid (Below w.heap.size w W0) := by rw [← hW0]; exact (Below.refl _ w).alloc (Nat.le_refl _) _
  have A0 : Hid (W0.heap[w.heap.size]? = some (.cells #[.int .i64 ah, .int .i64 ad, .int .i64 ap, .int .i64 xu, .int .i64 xs, .int .i64 xh, .int .i64 xa, .int .i64 xn, .string xt, .bool xp] 31)) := by rw [← hW0]; exact heap1 w _
  go_enter Tryd.func13, Tryd.ntmps13
  go_wp2_with (refine wpList_load_row rfl 31 _ rfl (w.heap.size) rfl 31 _ (0, 0) _ A0.out Tryd.underlying31 rfl (by kernel_rfl) ?_)
  clear hW0
  refine (cS.out _).mono ?_
  rintro e w1 ⟨rfl, hb⟩
  have A1 := Lib.hid (blk_on hb A0.out)
  have K1 := Lib.hid (K0.out.trans (hb.mono K0.out.size))
  clear hb A0 K0
  rcases HC.out with ⟨hq, h⟩ | ⟨hq, h⟩ | ⟨hq, h⟩ | ⟨hq, h⟩
  ·
    have HE := Lib.hid h
    subst hq
    clear h HC
    have hnil : ∀ w : World, (binOp .neq 60 (.iface 65 (.agg #[.int .i64 ah, .int .i64 ad, .int .i64 ap, .int .i64 xu, .int .i64 xs, .int .i64 xh, .int .i64 xa, .int .i64 xn, .string xt, .bool xp])) .nilIface).run Tryd.prog w = .ok (.bool true) w := fun _ => by kernel_rfl
    go_wp2_with fail
    refine (cF.out _).mono ?_
    rintro e w2 ⟨rfl, hb⟩
    have A2 := Lib.hid (blk_on hb A1.out)
    have K2 := Lib.hid (K1.out.trans (hb.mono K1.out.size))
    clear hb A1 K1
    go_wp2_with fail
    go_ret
    exact ⟨by rw [HE.out]; rfl, K2.out⟩
  ·
    have HE := Lib.hid h
    subst hq
    clear h HC
    have hnil : ∀ w : World, (binOp .neq 60 (.iface 67 (.agg #[.int .i64 ah, .int .i64 ad, .int .i64 ap, .int .i64 xu, .int .i64 xs, .int .i64 xh, .int .i64 xa, .int .i64 xn, .string xt, .bool xp])) .nilIface).run Tryd.prog w = .ok (.bool true) w := fun _ => by kernel_rfl
    go_wp2_with fail
    refine (cF.out _).mono ?_
    rintro e w2 ⟨rfl, hb⟩
    have A2 := Lib.hid (blk_on hb A1.out)
    have K2 := Lib.hid (K1.out.trans (hb.mono K1.out.size))
    clear hb A1 K1
    go_wp2_with fail
    go_ret
    exact ⟨by rw [HE.out]; rfl, K2.out⟩
  ·
    have HE := Lib.hid h
    subst hq
    clear h HC
    have hnil : ∀ w : World, (binOp .neq 60 (.iface 68 (.agg #[.int .i64 ah, .int .i64 ad, .int .i64 ap, .int .i64 xu, .int .i64 xs, .int .i64 xh, .int .i64 xa, .int .i64 xn, .string xt, .bool xp])) .nilIface).run Tryd.prog w = .ok (.bool true) w := fun _ => by kernel_rfl
    go_wp2_with fail
    refine (cA.out _).mono ?_
    rintro e w2 ⟨rfl, hb⟩
    have A2 := Lib.hid (blk_on hb A1.out)
    have K2 := Lib.hid (K1.out.trans (hb.mono K1.out.size))
    clear hb A1 K1
    go_wp2_with fail
    go_ret
    exact ⟨by rw [HE.out]; rfl, K2.out⟩
  ·
    have HE := Lib.hid h
    subst hq
    clear h HC
    go_wp2_with fail
    go_ret
    exact ⟨by rw [HE.out]; rfl, K1.out⟩

end Go.Proofs.YtdnkpdfhnpmhbaaDoor.Tx

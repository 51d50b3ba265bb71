/-
  What Answering of the model answers. Condition: a pick is an int64.
-/
import Derived.Test.YtdnkpdfhnpmhbaaDoorAns
namespace Go.Proofs.YtdnkpdfhnpmhbaaDoor.Tx
open Go.RowKit

set_option maxHeartbeats 16000000 in
theorem Answering_spec (h d p s : Int) (hi : I64 p) (w : World) : Calls Tryd.prog 11 #[.int .i64 h, .int .i64 d, .int .i64 p, .int .i64 s] w fun e w' => e = .returned (.tuple #[(answerV h d p s).val, .bool (answerB h d p s)]) ∧ Below w.heap.size w w' := by
  have c4 : Hid (p = 4 → ∀ w' : World, Calls Tryd.prog 14 #[.agg #[.int .i64 h, .int .i64 0, .int .i64 p, .int .i64 0, .int .i64 0, .int .i64 0, .int .i64 0, .int .i64 0, .string ⟨#[]⟩, .bool false]] w' fun e w'' => e = .returned (.bool (isDrawB h)) ∧ Below w'.heap.size w' w'') := fun hp w' => by
    subst hp
    have h1 := AnswerOk_spec ⟨h, 0, 4, .zero⟩ w'
    have e1 : ansOkB ⟨h, 0, 4, .zero⟩ = isDrawB h := by simp [ansOkB, inB, BoxV.isZ, BoxV.zero, KeyV.zero, ByteArray.toList_eq]
    rw [e1] at h1
    exact h1
  have G1 : Hid (p = 4 → isDrawB h = false → answerV h d p s = .zero ∧ answerB h d p s = false) := fun hp e => by
    have e1 : answerB h d p s = false := by rw [answerB, beq_int hp]; exact e
    exact ⟨answer_no e1, e1⟩
  have G2 : Hid (p = 4 → isDrawB h = true → answerV h d p s = ⟨h, 0, p, .zero⟩ ∧ answerB h d p s = true) := fun hp e => by
    have e1 : answerB h d p s = true := by rw [answerB, beq_int hp]; exact e
    exact ⟨by rw [answer_yes e1, rawV, beq_int hp]; rfl, e1⟩
  have F1 : Hid (p ≠ 4 → finB h d p s = false → answerV h d p s = .zero ∧ answerB h d p s = false) := fun hp e => by
    have e1 : answerB h d p s = false := by rw [answerB, bne_int hp, e]; rfl
    exact ⟨answer_no e1, e1⟩
  have F2 : Hid (p ≠ 4 → finB h d p s = true → goesB p s = false → answerV h d p s = .zero ∧ answerB h d p s = false) := fun hp e e2 => by
    have e1 : answerB h d p s = false := by rw [answerB, bne_int hp, e, e2]; rfl
    exact ⟨answer_no e1, e1⟩
  have F3 : Hid (p ≠ 4 → finB h d p s = true → goesB p s = true → answerV h d p s = ⟨h, d, p, finV h d p s⟩ ∧ answerB h d p s = true) := fun hp e e2 => by
    have e1 : answerB h d p s = true := by rw [answerB, bne_int hp, e, e2]; rfl
    exact ⟨by rw [answer_yes e1, rawV, bne_int hp]; rfl, e1⟩
  have cA' : Hid (p ≠ 4 → finB h d p s = true → goesB p s = true → ∀ w' : World, Calls Tryd.prog 14 #[(AnsV.mk h d p (finV h d p s)).val] w' fun e w'' => e = .returned (.bool true) ∧ Below w'.heap.size w' w'') := fun hp e e2 w' => by
    have e1 : answerB h d p s = true := by rw [answerB, bne_int hp, e, e2]; rfl
    have h1 := AnswerOk_spec (rawV h d p s) w'
    rw [raw_ok e1] at h1
    rw [rawV, bne_int hp] at h1
    exact h1
  have cT := Lib.hid fun w' => l1Int_any p hi w'
  have cG := Lib.hid fun w' => l11Goes_any p s w'
  have cK' := fun w' => HandKey_spec s h d w'
  have cL' := fun w' => Locked_spec (handK s h d) 0 (intT p) w'
  have HF : lockV ⟨handK s h d, 0, intT p, false⟩ = finV h d p s := rfl
  have HG : boxOkB ⟨handK s h d, 0, intT p, false⟩ = finB h d p s := rfl
  have HK : rightK ⟨3, s, h, d⟩ = handK s h d := rfl
  rw [HF, HG] at cL'
  rw [HK] at cK'
  clear HF HG HK
  generalize finB h d p s = is at F1 F2 F3 cA' cL'
  generalize finV h d p s = fin at F3 cA' cL'
  generalize goesB p s = zg at F2 F3 cA' cG
  generalize handK s h d = k at cK' cL'
  generalize intT p = tx at cT cL'
  generalize isDrawB h = zd at c4 G1 G2
  generalize answerV h d p s = out at G1 G2 F1 F2 F3 ⊢
  generalize answerB h d p s = ob at G1 G2 F1 F2 F3 ⊢
  obtain ⟨ku, ks, kh, ka⟩ := k
  obtain ⟨⟨xu, xs, xh, xa⟩, xn, xt, xp⟩ := fin
  have cK : Hid (∀ w' : World, Calls Tryd.prog 31 #[.int .i64 s, .int .i64 h, .int .i64 d] w' fun e w'' => e = .returned (.agg #[.int .i64 ku, .int .i64 ks, .int .i64 kh, .int .i64 ka]) ∧ Below w'.heap.size w' w'') := fun w' => cK' w'
  have cL : Hid (∀ w' : World, Calls Tryd.prog 30 #[.agg #[.int .i64 ku, .int .i64 ks, .int .i64 kh, .int .i64 ka], .int .i64 0, .string tx] w' fun e w'' => e = .returned (.tuple #[.agg #[.int .i64 xu, .int .i64 xs, .int .i64 xh, .int .i64 xa, .int .i64 xn, .string xt, .bool xp], .bool is]) ∧ Below w'.heap.size w' w'') := fun w' => cL' w'
  have cA : Hid (p ≠ 4 → is = true → zg = true → ∀ w' : World, Calls Tryd.prog 14 #[.agg #[.int .i64 h, .int .i64 d, .int .i64 p, .int .i64 xu, .int .i64 xs, .int .i64 xh, .int .i64 xa, .int .i64 xn, .string xt, .bool xp]] w' fun e w'' => e = .returned (.bool true) ∧ Below w'.heap.size w' w'') := fun hp e e2 w' => cA'.out hp e e2 w'
  clear cK' cL' cA'
  obtain ⟨W0, hW0⟩ : ∃ W, w.alloc (.cells #[.int .i64 0, .int .i64 0, .int .i64 0, .int .i64 0, .int .i64 0, .int .i64 0, .int .i64 0, .int .i64 0, .string ⟨#[]⟩, .bool false] 31) = W := ⟨_, rfl⟩
  have K0 : Hid (Below w.heap.size w W0) := by rw [← hW0]; exact (Below.refl _ w).alloc (Nat.le_refl _) _
  have R0 : Hid (W0.heap[w.heap.size]? = some (.cells #[.int .i64 0, .int .i64 0, .int .i64 0, .int .i64 0, .int .i64 0, .int .i64 0, .int .i64 0, .int .i64 0, .string ⟨#[]⟩, .bool false] 31)) := by rw [← hW0]; exact heap1 w _
  go_enter Tryd.func11, Tryd.ntmps11
  by_cases hp : p = 4
  ·
    subst hp
    obtain ⟨V1, hV1⟩ : ∃ V, W0.alloc (.cells #[.int .i64 0, .int .i64 0, .int .i64 0, .int .i64 0, .int .i64 0, .int .i64 0, .int .i64 0, .int .i64 0, .string ⟨#[]⟩, .bool false] 31) = V := ⟨_, rfl⟩
    have ltV1R : w.heap.size < W0.heap.size := blk_in R0.out
    have R1 : Hid (V1.heap[w.heap.size]? = some (.cells #[.int .i64 0, .int .i64 0, .int .i64 0, .int .i64 0, .int .i64 0, .int .i64 0, .int .i64 0, .int .i64 0, .string ⟨#[]⟩, .bool false] 31)) := by rw [← hV1]; exact alloc_blk R0.out
    have hb : Below W0.heap.size W0 V1 := by rw [← hV1]; exact (Below.refl _ W0).alloc (Nat.le_refl _) _
    have K1 := Lib.hid (K0.out.trans (hb.mono K0.out.size))
    have A1 : Hid (V1.heap[W0.heap.size]? = some (.cells #[.int .i64 0, .int .i64 0, .int .i64 0, .int .i64 0, .int .i64 0, .int .i64 0, .int .i64 0, .int .i64 0, .string ⟨#[]⟩, .bool false] 31)) := by rw [← hV1]; exact heap1 W0 _
    have lbV1 : w.heap.size ≤ W0.heap.size := K0.out.size
    clear hb R0 K0
    have R2 : Hid ((V1.setRow W0.heap.size #[.int .i64 h, .int .i64 0, .int .i64 4, .int .i64 0, .int .i64 0, .int .i64 0, .int .i64 0, .int .i64 0, .string ⟨#[]⟩, .bool false]).heap[w.heap.size]? = some (.cells #[.int .i64 0, .int .i64 0, .int .i64 0, .int .i64 0, .int .i64 0, .int .i64 0, .int .i64 0, .int .i64 0, .string ⟨#[]⟩, .bool false] 31)) := (setRow_other _ _ _ _ (by omega)).trans R1.out
    have A2 : Hid ((V1.setRow W0.heap.size #[.int .i64 h, .int .i64 0, .int .i64 4, .int .i64 0, .int .i64 0, .int .i64 0, .int .i64 0, .int .i64 0, .string ⟨#[]⟩, .bool false]).heap[W0.heap.size]? = some (.cells #[.int .i64 h, .int .i64 0, .int .i64 4, .int .i64 0, .int .i64 0, .int .i64 0, .int .i64 0, .int .i64 0, .string ⟨#[]⟩, .bool false] 31)) := setRow_heap _ _ _ _ _ _ A1.out
    have K2 : Hid (Below w.heap.size w (V1.setRow W0.heap.size #[.int .i64 h, .int .i64 0, .int .i64 4, .int .i64 0, .int .i64 0, .int .i64 0, .int .i64 0, .int .i64 0, .string ⟨#[]⟩, .bool false])) := below_setRow K1.out (by omega) _
    go_wp2_with (first | (refine wpList_store_row rfl 31 _ _ rfl (W0.heap.size) #[.int .i64 h, .int .i64 0, .int .i64 4, .int .i64 0, .int .i64 0, .int .i64 0, .int .i64 0, .int .i64 0, .string ⟨#[]⟩, .bool false] rfl rfl 31 _ A1.out (by kernel_rfl) rfl (by simp [Value.oneCell']) ?_) | (refine wpList_load_row rfl 31 _ rfl (W0.heap.size) rfl 31 _ (0, 0) _ A2.out Tryd.underlying31 rfl (by kernel_rfl) ?_))
    clear hW0 hV1 R1 A1 K1
    generalize V1.setRow W0.heap.size #[.int .i64 h, .int .i64 0, .int .i64 4, .int .i64 0, .int .i64 0, .int .i64 0, .int .i64 0, .int .i64 0, .string ⟨#[]⟩, .bool false] = S2 at R2 A2 K2 ⊢
    refine (c4.out (by first | assumption | rfl | trivial) _).mono ?_
    rintro e w3 ⟨rfl, hb⟩
    have R3 := Lib.hid (blk_on hb R2.out)
    have A3 := Lib.hid (blk_on hb A2.out)
    have K3 := Lib.hid (K2.out.trans (hb.mono K2.out.size))
    clear hb R2 A2 K2
    cases zd with
    | false =>
      have HE := Lib.hid (G1.out (by trivial) rfl)
      go_wp2_with (refine wpList_store_row rfl 31 _ _ rfl (w.heap.size) #[.int .i64 0, .int .i64 0, .int .i64 0, .int .i64 0, .int .i64 0, .int .i64 0, .int .i64 0, .int .i64 0, .string ⟨#[]⟩, .bool false] rfl rfl 31 _ R3.out (by kernel_rfl) rfl (by simp [Value.oneCell']) ?_)
      exact row_ret2 (r := w.heap.size) (cs := #[.int .i64 0, .int .i64 0, .int .i64 0, .int .i64 0, .int .i64 0, .int .i64 0, .int .i64 0, .int .i64 0, .string ⟨#[]⟩, .bool false]) rfl rfl rfl (setRow_heap _ _ _ _ _ _ R3.out) Tryd.underlying31 rfl (by kernel_rfl) rfl ⟨by rw [HE.out.1, HE.out.2]; rfl, below_setRow K3.out (by omega) _⟩
    | true =>
      have HE := Lib.hid (G2.out (by trivial) rfl)
      go_wp2_with (first | (refine wpList_load_row rfl 31 _ rfl (W0.heap.size) rfl 31 _ (0, 0) _ A3.out Tryd.underlying31 rfl (by kernel_rfl) ?_) | (refine wpList_store_row rfl 31 _ _ rfl (w.heap.size) #[.int .i64 h, .int .i64 0, .int .i64 4, .int .i64 0, .int .i64 0, .int .i64 0, .int .i64 0, .int .i64 0, .string ⟨#[]⟩, .bool false] rfl rfl 31 _ R3.out (by kernel_rfl) rfl (by simp [Value.oneCell']) ?_))
      exact row_ret2 (r := w.heap.size) (cs := #[.int .i64 h, .int .i64 0, .int .i64 4, .int .i64 0, .int .i64 0, .int .i64 0, .int .i64 0, .int .i64 0, .string ⟨#[]⟩, .bool false]) rfl rfl rfl (setRow_heap _ _ _ _ _ _ R3.out) Tryd.underlying31 rfl (by kernel_rfl) rfl ⟨by rw [HE.out.1, HE.out.2]; rfl, below_setRow K3.out (by omega) _⟩
  ·
    have hp' : (p != 4) = true := by simpa using hp
    obtain ⟨V1, hV1⟩ : ∃ V, W0.alloc (.cells #[.int .i64 0, .int .i64 0, .int .i64 0, .int .i64 0, .int .i64 0, .int .i64 0, .int .i64 0, .int .i64 0, .string ⟨#[]⟩, .bool false] 31) = V := ⟨_, rfl⟩
    have ltV1R : w.heap.size < W0.heap.size := blk_in R0.out
    have R1 : Hid (V1.heap[w.heap.size]? = some (.cells #[.int .i64 0, .int .i64 0, .int .i64 0, .int .i64 0, .int .i64 0, .int .i64 0, .int .i64 0, .int .i64 0, .string ⟨#[]⟩, .bool false] 31)) := by rw [← hV1]; exact alloc_blk R0.out
    have hb : Below W0.heap.size W0 V1 := by rw [← hV1]; exact (Below.refl _ W0).alloc (Nat.le_refl _) _
    have K1 := Lib.hid (K0.out.trans (hb.mono K0.out.size))
    have A1 : Hid (V1.heap[W0.heap.size]? = some (.cells #[.int .i64 0, .int .i64 0, .int .i64 0, .int .i64 0, .int .i64 0, .int .i64 0, .int .i64 0, .int .i64 0, .string ⟨#[]⟩, .bool false] 31)) := by rw [← hV1]; exact heap1 W0 _
    have lbV1 : w.heap.size ≤ W0.heap.size := K0.out.size
    clear hb R0 K0
    have R2 : Hid ((V1.setRow W0.heap.size #[.int .i64 h, .int .i64 0, .int .i64 p, .int .i64 0, .int .i64 0, .int .i64 0, .int .i64 0, .int .i64 0, .string ⟨#[]⟩, .bool false]).heap[w.heap.size]? = some (.cells #[.int .i64 0, .int .i64 0, .int .i64 0, .int .i64 0, .int .i64 0, .int .i64 0, .int .i64 0, .int .i64 0, .string ⟨#[]⟩, .bool false] 31)) := (setRow_other _ _ _ _ (by omega)).trans R1.out
    have A2 : Hid ((V1.setRow W0.heap.size #[.int .i64 h, .int .i64 0, .int .i64 p, .int .i64 0, .int .i64 0, .int .i64 0, .int .i64 0, .int .i64 0, .string ⟨#[]⟩, .bool false]).heap[W0.heap.size]? = some (.cells #[.int .i64 h, .int .i64 0, .int .i64 p, .int .i64 0, .int .i64 0, .int .i64 0, .int .i64 0, .int .i64 0, .string ⟨#[]⟩, .bool false] 31)) := setRow_heap _ _ _ _ _ _ A1.out
    have K2 : Hid (Below w.heap.size w (V1.setRow W0.heap.size #[.int .i64 h, .int .i64 0, .int .i64 p, .int .i64 0, .int .i64 0, .int .i64 0, .int .i64 0, .int .i64 0, .string ⟨#[]⟩, .bool false])) := below_setRow K1.out (by omega) _
    go_wp2_with (refine wpList_store_row rfl 31 _ _ rfl (W0.heap.size) #[.int .i64 h, .int .i64 0, .int .i64 p, .int .i64 0, .int .i64 0, .int .i64 0, .int .i64 0, .int .i64 0, .string ⟨#[]⟩, .bool false] rfl rfl 31 _ A1.out (by kernel_rfl) rfl (by simp [Value.oneCell']) ?_)
    clear hW0 hV1 R1 A1 K1
    generalize V1.setRow W0.heap.size #[.int .i64 h, .int .i64 0, .int .i64 p, .int .i64 0, .int .i64 0, .int .i64 0, .int .i64 0, .int .i64 0, .string ⟨#[]⟩, .bool false] = S2 at R2 A2 K2 ⊢
    refine (cK.out _).mono ?_
    rintro e w3 ⟨rfl, hb⟩
    have R3 := Lib.hid (blk_on hb R2.out)
    have A3 := Lib.hid (blk_on hb A2.out)
    have K3 := Lib.hid (K2.out.trans (hb.mono K2.out.size))
    clear hb R2 A2 K2
    go_wp2_with fail
    refine (cT.out _).mono ?_
    rintro e w4 ⟨rfl, hb⟩
    have R4 := Lib.hid (blk_on hb R3.out)
    have A4 := Lib.hid (blk_on hb A3.out)
    have K4 := Lib.hid (K3.out.trans (hb.mono K3.out.size))
    clear hb R3 A3 K3
    go_wp2_with fail
    refine (cL.out _).mono ?_
    rintro e w5 ⟨rfl, hb⟩
    have R5 := Lib.hid (blk_on hb R4.out)
    have A5 := Lib.hid (blk_on hb A4.out)
    have K5 := Lib.hid (K4.out.trans (hb.mono K4.out.size))
    clear hb R4 A4 K4
    obtain ⟨V6, hV6⟩ : ∃ V, w5.alloc (.cells #[.int .i64 0, .int .i64 0, .int .i64 0, .int .i64 0, .int .i64 0, .string ⟨#[]⟩, .bool false] 29) = V := ⟨_, rfl⟩
    have ltV6R : w.heap.size < w5.heap.size := blk_in R5.out
    have ltV6A : W0.heap.size < w5.heap.size := blk_in A5.out
    have R6 : Hid (V6.heap[w.heap.size]? = some (.cells #[.int .i64 0, .int .i64 0, .int .i64 0, .int .i64 0, .int .i64 0, .int .i64 0, .int .i64 0, .int .i64 0, .string ⟨#[]⟩, .bool false] 31)) := by rw [← hV6]; exact alloc_blk R5.out
    have A6 : Hid (V6.heap[W0.heap.size]? = some (.cells #[.int .i64 h, .int .i64 0, .int .i64 p, .int .i64 0, .int .i64 0, .int .i64 0, .int .i64 0, .int .i64 0, .string ⟨#[]⟩, .bool false] 31)) := by rw [← hV6]; exact alloc_blk A5.out
    have hb : Below w5.heap.size w5 V6 := by rw [← hV6]; exact (Below.refl _ w5).alloc (Nat.le_refl _) _
    have K6 := Lib.hid (K5.out.trans (hb.mono K5.out.size))
    have B6 : Hid (V6.heap[w5.heap.size]? = some (.cells #[.int .i64 0, .int .i64 0, .int .i64 0, .int .i64 0, .int .i64 0, .string ⟨#[]⟩, .bool false] 29)) := by rw [← hV6]; exact heap1 w5 _
    have lbV6 : w.heap.size ≤ w5.heap.size := K5.out.size
    clear hb R5 A5 K5
    have R7 : Hid ((V6.setRow w5.heap.size #[.int .i64 xu, .int .i64 xs, .int .i64 xh, .int .i64 xa, .int .i64 xn, .string xt, .bool xp]).heap[w.heap.size]? = some (.cells #[.int .i64 0, .int .i64 0, .int .i64 0, .int .i64 0, .int .i64 0, .int .i64 0, .int .i64 0, .int .i64 0, .string ⟨#[]⟩, .bool false] 31)) := (setRow_other _ _ _ _ (by omega)).trans R6.out
    have A7 : Hid ((V6.setRow w5.heap.size #[.int .i64 xu, .int .i64 xs, .int .i64 xh, .int .i64 xa, .int .i64 xn, .string xt, .bool xp]).heap[W0.heap.size]? = some (.cells #[.int .i64 h, .int .i64 0, .int .i64 p, .int .i64 0, .int .i64 0, .int .i64 0, .int .i64 0, .int .i64 0, .string ⟨#[]⟩, .bool false] 31)) := (setRow_other _ _ _ _ (by omega)).trans A6.out
    have B7 : Hid ((V6.setRow w5.heap.size #[.int .i64 xu, .int .i64 xs, .int .i64 xh, .int .i64 xa, .int .i64 xn, .string xt, .bool xp]).heap[w5.heap.size]? = some (.cells #[.int .i64 xu, .int .i64 xs, .int .i64 xh, .int .i64 xa, .int .i64 xn, .string xt, .bool xp] 29)) := setRow_heap _ _ _ _ _ _ B6.out
    have K7 : Hid (Below w.heap.size w (V6.setRow w5.heap.size #[.int .i64 xu, .int .i64 xs, .int .i64 xh, .int .i64 xa, .int .i64 xn, .string xt, .bool xp])) := below_setRow K6.out (by omega) _
    obtain ⟨⟨a0, a1, a2, a3, a4, a5, a6, a7, a8, a9⟩, az0, az1, az2, az3, az4, az5, az6, az7, az8, az9⟩ := blk10 A7.out
    obtain ⟨S8, qS8⟩ : ∃ W, setAll (V6.setRow w5.heap.size #[.int .i64 xu, .int .i64 xs, .int .i64 xh, .int .i64 xa, .int .i64 xn, .string xt, .bool xp]) W0.heap.size 1 [.int .i64 d] = W := ⟨_, rfl⟩
    have hS8 : ((V6.setRow w5.heap.size #[.int .i64 xu, .int .i64 xs, .int .i64 xh, .int .i64 xa, .int .i64 xn, .string xt, .bool xp]).setCell ⟨W0.heap.size, 1, none⟩ (.int .i64 d)) = S8 := qS8
    have R8 : Hid (S8.heap[w.heap.size]? = some (.cells #[.int .i64 0, .int .i64 0, .int .i64 0, .int .i64 0, .int .i64 0, .int .i64 0, .int .i64 0, .int .i64 0, .string ⟨#[]⟩, .bool false] 31)) := by rw [← qS8]; exact setAll_away (by omega) _ _ R7.out
    have A8 : Hid (S8.heap[W0.heap.size]? = some (.cells #[.int .i64 h, .int .i64 d, .int .i64 p, .int .i64 0, .int .i64 0, .int .i64 0, .int .i64 0, .int .i64 0, .string ⟨#[]⟩, .bool false] 31)) := by
      rw [← qS8]
      refine (setAll_blk (w := (V6.setRow w5.heap.size #[.int .i64 xu, .int .i64 xs, .int .i64 xh, .int .i64 xa, .int .i64 xn, .string xt, .bool xp])) (g := W0.heap.size) [.int .i64 d] 1 A7.out).trans ?_
      refine congrArg (fun z => some (Obj.cells z 31 (0, 0))) (Array.toList_inj.1 ?_)
      rw [overA_toList _ _ _ (by simp)]
      rfl
    have B8 : Hid (S8.heap[w5.heap.size]? = some (.cells #[.int .i64 xu, .int .i64 xs, .int .i64 xh, .int .i64 xa, .int .i64 xn, .string xt, .bool xp] 29)) := by rw [← qS8]; exact setAll_away (by omega) _ _ B7.out
    have K8 : Hid (Below w.heap.size w S8) := by rw [← qS8]; exact setAll_below (g := W0.heap.size) (by omega) [.int .i64 d] 1 K7.out
    have zS8 : (V6.setRow w5.heap.size #[.int .i64 xu, .int .i64 xs, .int .i64 xh, .int .i64 xa, .int .i64 xn, .string xt, .bool xp]).heap.size = S8.heap.size := by rw [← qS8]; exact (setAll_size [.int .i64 d] 1 _).symm
    clear qS8 R7 A7 B7 K7
    obtain ⟨⟨b0, b1, b2, b3, b4, b5, b6, b7, b8, b9⟩, bz0, bz1, bz2, bz3, bz4, bz5, bz6, bz7, bz8, bz9⟩ := blk10 A8.out
    obtain ⟨⟨g0, g1, g2, g3, g4, g5, g6⟩, _⟩ := blk7 B8.out
    obtain ⟨S9, qS9⟩ : ∃ W, setAll S8 W0.heap.size 3 [.int .i64 xu, .int .i64 xs, .int .i64 xh, .int .i64 xa, .int .i64 xn, .string xt, .bool xp] = W := ⟨_, rfl⟩
    have hS9 : (((((((S8.setCell ⟨W0.heap.size, 3, none⟩ (.int .i64 xu)).setCell ⟨W0.heap.size, 4, none⟩ (.int .i64 xs)).setCell ⟨W0.heap.size, 5, none⟩ (.int .i64 xh)).setCell ⟨W0.heap.size, 6, none⟩ (.int .i64 xa)).setCell ⟨W0.heap.size, 7, none⟩ (.int .i64 xn)).setCell ⟨W0.heap.size, 8, none⟩ (.string xt)).setCell ⟨W0.heap.size, 9, none⟩ (.bool xp)) = S9 := qS9
    have R9 : Hid (S9.heap[w.heap.size]? = some (.cells #[.int .i64 0, .int .i64 0, .int .i64 0, .int .i64 0, .int .i64 0, .int .i64 0, .int .i64 0, .int .i64 0, .string ⟨#[]⟩, .bool false] 31)) := by rw [← qS9]; exact setAll_away (by omega) _ _ R8.out
    have A9 : Hid (S9.heap[W0.heap.size]? = some (.cells #[.int .i64 h, .int .i64 d, .int .i64 p, .int .i64 xu, .int .i64 xs, .int .i64 xh, .int .i64 xa, .int .i64 xn, .string xt, .bool xp] 31)) := by
      rw [← qS9]
      refine (setAll_blk (w := S8) (g := W0.heap.size) [.int .i64 xu, .int .i64 xs, .int .i64 xh, .int .i64 xa, .int .i64 xn, .string xt, .bool xp] 3 A8.out).trans ?_
      refine congrArg (fun z => some (Obj.cells z 31 (0, 0))) (Array.toList_inj.1 ?_)
      rw [overA_toList _ _ _ (by simp)]
      rfl
    have B9 : Hid (S9.heap[w5.heap.size]? = some (.cells #[.int .i64 xu, .int .i64 xs, .int .i64 xh, .int .i64 xa, .int .i64 xn, .string xt, .bool xp] 29)) := by rw [← qS9]; exact setAll_away (by omega) _ _ B8.out
    have K9 : Hid (Below w.heap.size w S9) := by rw [← qS9]; exact setAll_below (g := W0.heap.size) (by omega) [.int .i64 xu, .int .i64 xs, .int .i64 xh, .int .i64 xa, .int .i64 xn, .string xt, .bool xp] 3 K8.out
    have zS9 : S8.heap.size = S9.heap.size := by rw [← qS9]; exact (setAll_size [.int .i64 xu, .int .i64 xs, .int .i64 xh, .int .i64 xa, .int .i64 xn, .string xt, .bool xp] 3 _).symm
    clear qS9 R8 A8 B8 K8
    cases is with
    | false =>
      have HE := Lib.hid (F1.out hp (by trivial))
      go_wp2_with (first | (refine wpList_store_row rfl 29 _ _ rfl (w5.heap.size) #[.int .i64 xu, .int .i64 xs, .int .i64 xh, .int .i64 xa, .int .i64 xn, .string xt, .bool xp] rfl rfl 29 _ B6.out (by kernel_rfl) rfl (by simp [Value.oneCell']) ?_) | (refine wpList_store_row rfl 31 _ _ rfl (w.heap.size) #[.int .i64 0, .int .i64 0, .int .i64 0, .int .i64 0, .int .i64 0, .int .i64 0, .int .i64 0, .int .i64 0, .string ⟨#[]⟩, .bool false] rfl rfl 31 _ R9.out (by kernel_rfl) rfl (by simp [Value.oneCell']) ?_))
      exact row_ret2 (r := w.heap.size) (cs := #[.int .i64 0, .int .i64 0, .int .i64 0, .int .i64 0, .int .i64 0, .int .i64 0, .int .i64 0, .int .i64 0, .string ⟨#[]⟩, .bool false]) rfl rfl rfl (setRow_heap _ _ _ _ _ _ R9.out) Tryd.underlying31 rfl (by kernel_rfl) rfl ⟨by rw [HE.out.1, HE.out.2]; rfl, below_setRow K9.out (by omega) _⟩
    | true =>
      go_wp2_with (refine wpList_store_row rfl 29 _ _ rfl (w5.heap.size) #[.int .i64 xu, .int .i64 xs, .int .i64 xh, .int .i64 xa, .int .i64 xn, .string xt, .bool xp] rfl rfl 29 _ B6.out (by kernel_rfl) rfl (by simp [Value.oneCell']) ?_)
      clear a0 a1 a2 a3 a4 a5 a6 a7 a8 a9 az0 az1 az2 az3 az4 az5 az6 az7 az8 az9
      clear b0 b1 b2 b3 b4 b5 b6 b7 b8 b9 bz0 bz1 bz2 bz3 bz4 bz5 bz6 bz7 bz8 bz9
      clear g0 g1 g2 g3 g4 g5 g6
      clear hV6 hS8 hS9
      refine (cG.out _).mono ?_
      rintro e w10 ⟨rfl, hb⟩
      have R10 := Lib.hid (blk_on hb R9.out)
      have A10 := Lib.hid (blk_on hb A9.out)
      have B10 := Lib.hid (blk_on hb B9.out)
      have K10 := Lib.hid (K9.out.trans (hb.mono K9.out.size))
      clear hb R9 A9 B9 K9
      cases zg with
      | false =>
        have HE := Lib.hid (F2.out hp (by trivial) (by trivial))
        go_wp2_with (refine wpList_store_row rfl 31 _ _ rfl (w.heap.size) #[.int .i64 0, .int .i64 0, .int .i64 0, .int .i64 0, .int .i64 0, .int .i64 0, .int .i64 0, .int .i64 0, .string ⟨#[]⟩, .bool false] rfl rfl 31 _ R10.out (by kernel_rfl) rfl (by simp [Value.oneCell']) ?_)
        exact row_ret2 (r := w.heap.size) (cs := #[.int .i64 0, .int .i64 0, .int .i64 0, .int .i64 0, .int .i64 0, .int .i64 0, .int .i64 0, .int .i64 0, .string ⟨#[]⟩, .bool false]) rfl rfl rfl (setRow_heap _ _ _ _ _ _ R10.out) Tryd.underlying31 rfl (by kernel_rfl) rfl ⟨by rw [HE.out.1, HE.out.2]; rfl, below_setRow K10.out (by omega) _⟩
      | true =>
        have HE := Lib.hid (F3.out hp (by trivial) (by trivial))
        go_wp2_with (refine wpList_load_row rfl 31 _ rfl (W0.heap.size) rfl 31 _ (0, 0) _ A10.out Tryd.underlying31 rfl (by kernel_rfl) ?_)
        refine (cA.out hp (by trivial) (by trivial) _).mono ?_
        rintro e w11 ⟨rfl, hb⟩
        have R11 := Lib.hid (blk_on hb R10.out)
        have A11 := Lib.hid (blk_on hb A10.out)
        have B11 := Lib.hid (blk_on hb B10.out)
        have K11 := Lib.hid (K10.out.trans (hb.mono K10.out.size))
        clear hb R10 A10 B10 K10
        go_wp2_with (first | (refine wpList_load_row rfl 31 _ rfl (W0.heap.size) rfl 31 _ (0, 0) _ A11.out Tryd.underlying31 rfl (by kernel_rfl) ?_) | (refine wpList_store_row rfl 31 _ _ rfl (w.heap.size) #[.int .i64 h, .int .i64 d, .int .i64 p, .int .i64 xu, .int .i64 xs, .int .i64 xh, .int .i64 xa, .int .i64 xn, .string xt, .bool xp] rfl rfl 31 _ R11.out (by kernel_rfl) rfl (by simp [Value.oneCell']) ?_))
        exact row_ret2 (r := w.heap.size) (cs := #[.int .i64 h, .int .i64 d, .int .i64 p, .int .i64 xu, .int .i64 xs, .int .i64 xh, .int .i64 xa, .int .i64 xn, .string xt, .bool xp]) rfl rfl rfl (setRow_heap _ _ _ _ _ _ R11.out) Tryd.underlying31 rfl (by kernel_rfl) rfl ⟨by rw [HE.out.1, HE.out.2]; rfl, below_setRow K11.out (by omega) _⟩

end Go.Proofs.YtdnkpdfhnpmhbaaDoor.Tx

/-
  What Answering of the program answers. Conditions: a pick is an int64; the library's table of powers of ten holds what its text lays in it.
-/
import Derived.Deep.RegionWith
import Derived.Test.YtdnkpdfhnpmhbaaDoorImpl11b
namespace Go.Proofs.YtdnkpdfhnpmhbaaDoor.Tx
open Go.RowKit

set_option maxHeartbeats 16000000 in
theorem Answering_impl (h d p s : Int) (hi : I64 p) (w : World) (ht : Tab w) : Calls Tryd.prog 8 #[.int .i64 h, .int .i64 d, .int .i64 p, .int .i64 s] w fun e w' => e = .returned (.tuple #[(answerV h d p s).val, .bool (answerB h d p s)]) ∧ Below w.heap.size w w' := by
  have HTB := Lib.hid ht
  clear ht
  have cR : ∀ w' : World, Tab w' → Calls Tryd.prog 10 #[(rawV h d p s).val, .int .i64 s] w' fun e w'' => e = .returned (.bool (answerB h d p s)) ∧ Below w'.heap.size w' w'' := fun w' hT => by
    have h1 := Proves_impl (rawV h d p s) s (by rw [(raw_fields h d p s).2]; exact hi) w' hT
    rw [raw_proves] at h1
    exact h1
  have c4 : Hid (p = 4 → ∀ w' : World, Tab w' → Calls Tryd.prog 10 #[.agg #[.int .i64 h, .int .i64 0, .int .i64 p, .int .i64 0, .int .i64 0, .int .i64 0, .int .i64 0, .int .i64 0, .string ⟨#[]⟩, .bool false], .int .i64 s] w' fun e w'' => e = .returned (.bool (answerB h d p s)) ∧ Below w'.heap.size w' w'') := fun hp w' hT => by
    have h1 := cR w' hT
    rw [show rawV h d p s = ⟨h, 0, p, .zero⟩ by rw [rawV, beq_int hp]; rfl] at h1
    exact h1
  have cP' : Hid (p ≠ 4 → ∀ w' : World, Tab w' → Calls Tryd.prog 10 #[(AnsV.mk h d p (finV h d p s)).val, .int .i64 s] w' fun e w'' => e = .returned (.bool (answerB h d p s)) ∧ Below w'.heap.size w' w'') := fun hp w' hT => by
    have h1 := cR w' hT
    rw [show rawV h d p s = ⟨h, d, p, finV h d p s⟩ by rw [rawV, bne_int hp]; rfl] at h1
    exact h1
  clear cR
  have G0 : Hid (answerB h d p s = false → answerV h d p s = .zero) := fun e => answer_no e
  have G4 : Hid (p = 4 → answerB h d p s = true → answerV h d p s = ⟨h, 0, p, .zero⟩) := fun hp e => by rw [answer_yes e, rawV, beq_int hp]; rfl
  have G1 : Hid (p ≠ 4 → answerB h d p s = true → answerV h d p s = ⟨h, d, p, finV h d p s⟩) := fun hp e => by rw [answer_yes e, rawV, bne_int hp]; rfl
  have cW : Hid (∀ w' : World, Tab w' → Calls Tryd.prog 25 #[.agg #[.int .i64 h, .int .i64 d, .int .i64 p, .int .i64 0, .int .i64 0, .int .i64 0, .int .i64 0, .int .i64 0, .string ⟨#[]⟩, .bool false]] w' fun e w'' => e = .returned (.string (intT p)) ∧ Below w'.heap.size w' w'') := fun w' hT => writtenPick_any ⟨h, d, p, .zero⟩ hi w' hT
  have cK' := fun w' => HandKey_impl s h d w'
  have cL' := fun w' => Locked_impl (handK s h d) 0 (intT p) w'
  have HF : lockV ⟨handK s h d, 0, intT p, false⟩ = finV h d p s := rfl
  have HK : rightK ⟨3, s, h, d⟩ = handK s h d := rfl
  rw [HF] at cL'
  rw [HK] at cK'
  clear HF HK
  obtain ⟨is, his⟩ : ∃ x, boxOkB ⟨handK s h d, 0, intT p, false⟩ = x := ⟨_, rfl⟩
  rw [his] at cL'
  clear his
  generalize finV h d p s = fin at G1 cP' cL'
  generalize handK s h d = k at cK' cL'
  generalize intT p = tx at cW cL'
  generalize answerV h d p s = out at G0 G4 G1 ⊢
  generalize answerB h d p s = ob at G0 G4 G1 c4 cP' ⊢
  obtain ⟨ku, ks, kh, ka⟩ := k
  obtain ⟨⟨xu, xs, xh, xa⟩, xn, xt, xp⟩ := fin
  have cK : Hid (∀ w' : World, Calls Tryd.prog 24 #[.int .i64 s, .int .i64 h, .int .i64 d] w' fun e w'' => e = .returned (.agg #[.int .i64 ku, .int .i64 ks, .int .i64 kh, .int .i64 ka]) ∧ Below w'.heap.size w' w'') := fun w' => cK' w'
  have cL : Hid (∀ w' : World, Calls Tryd.prog 23 #[.agg #[.int .i64 ku, .int .i64 ks, .int .i64 kh, .int .i64 ka], .int .i64 0, .string tx] w' fun e w'' => e = .returned (.tuple #[.agg #[.int .i64 xu, .int .i64 xs, .int .i64 xh, .int .i64 xa, .int .i64 xn, .string xt, .bool xp], .bool is]) ∧ Below w'.heap.size w' w'') := fun w' => cL' w'
  have cP : Hid (p ≠ 4 → ∀ w' : World, Tab w' → Calls Tryd.prog 10 #[.agg #[.int .i64 h, .int .i64 d, .int .i64 p, .int .i64 xu, .int .i64 xs, .int .i64 xh, .int .i64 xa, .int .i64 xn, .string xt, .bool xp], .int .i64 s] w' fun e w'' => e = .returned (.bool ob) ∧ Below w'.heap.size w' w'') := fun hp w' hT => cP'.out hp w' hT
  clear cK' cL' cP' hi
  obtain ⟨W0, hW0⟩ : ∃ W, w.alloc (.cells #[.int .i64 0, .int .i64 0, .int .i64 0, .int .i64 0, .int .i64 0, .int .i64 0, .int .i64 0, .int .i64 0, .string ⟨#[]⟩, .bool false] 31) = W := ⟨_, rfl⟩
  have K0 : Hid (Below w.heap.size w W0) := by rw [← hW0]; exact (Below.refl _ w).alloc (Nat.le_refl _) _
  have R0 : Hid (W0.heap[w.heap.size]? = some (.cells #[.int .i64 0, .int .i64 0, .int .i64 0, .int .i64 0, .int .i64 0, .int .i64 0, .int .i64 0, .int .i64 0, .string ⟨#[]⟩, .bool false] 31)) := by rw [← hW0]; exact heap1 w _
  go_enter Tryd.func8, Tryd.ntmps8
  by_cases hp : p = 4
  ·
    subst hp
    obtain ⟨V1, hV1⟩ : ∃ V, W0.alloc (.cells #[.int .i64 0, .int .i64 0, .int .i64 0, .int .i64 0, .int .i64 0, .int .i64 0, .int .i64 0, .int .i64 0, .string ⟨#[]⟩, .bool false] 31) = V := ⟨_, rfl⟩
    have ltV1R : w.heap.size < W0.heap.size := blk_in R0.out
    have R1 : Hid (V1.heap[w.heap.size]? = some (.cells #[.int .i64 0, .int .i64 0, .int .i64 0, .int .i64 0, .int .i64 0, .int .i64 0, .int .i64 0, .int .i64 0, .string ⟨#[]⟩, .bool false] 31)) := by rw [← hV1]; exact alloc_blk R0.out
    have hb : Below W0.heap.size W0 V1 := by rw [← hV1]; exact (Below.refl _ W0).alloc (Nat.le_refl _) _
    have K1 := Lib.hid (K0.out.trans (hb.mono K0.out.size))
    have A1 : Hid (V1.heap[W0.heap.size]? = some (.cells #[.int .i64 0, .int .i64 0, .int .i64 0, .int .i64 0, .int .i64 0, .int .i64 0, .int .i64 0, .int .i64 0, .string ⟨#[]⟩, .bool false] 31)) := by rw [← hV1]; exact heap1 W0 _
    have lbV1 : w.heap.size ≤ W0.heap.size := K0.out.size
    clear hb R0 K0
    have R2 : Hid ((V1.setRow W0.heap.size #[.int .i64 h, .int .i64 0, .int .i64 4, .int .i64 0, .int .i64 0, .int .i64 0, .int .i64 0, .int .i64 0, .string ⟨#[]⟩, .bool false]).heap[w.heap.size]? = some (.cells #[.int .i64 0, .int .i64 0, .int .i64 0, .int .i64 0, .int .i64 0, .int .i64 0, .int .i64 0, .int .i64 0, .string ⟨#[]⟩, .bool false] 31)) := (setRow_other _ _ _ _ (by omega)).trans R1.out
    have A2 : Hid ((V1.setRow W0.heap.size #[.int .i64 h, .int .i64 0, .int .i64 4, .int .i64 0, .int .i64 0, .int .i64 0, .int .i64 0, .int .i64 0, .string ⟨#[]⟩, .bool false]).heap[W0.heap.size]? = some (.cells #[.int .i64 h, .int .i64 0, .int .i64 4, .int .i64 0, .int .i64 0, .int .i64 0, .int .i64 0, .int .i64 0, .string ⟨#[]⟩, .bool false] 31)) := setRow_heap _ _ _ _ _ _ A1.out
    have K2 : Hid (Below w.heap.size w (V1.setRow W0.heap.size #[.int .i64 h, .int .i64 0, .int .i64 4, .int .i64 0, .int .i64 0, .int .i64 0, .int .i64 0, .int .i64 0, .string ⟨#[]⟩, .bool false])) := below_setRow K1.out (by omega) _
    go_wp2_with (first | (refine wpList_store_row rfl 31 _ _ rfl (W0.heap.size) #[.int .i64 h, .int .i64 0, .int .i64 4, .int .i64 0, .int .i64 0, .int .i64 0, .int .i64 0, .int .i64 0, .string ⟨#[]⟩, .bool false] rfl rfl 31 _ A1.out (by kernel_rfl) rfl (by simp [Value.oneCell']) ?_) | (refine wpList_load_row rfl 31 _ rfl (W0.heap.size) rfl 31 _ (0, 0) _ A2.out Tryd.underlying31 rfl (by kernel_rfl) ?_))
    clear hW0 hV1 R1 A1 K1
    generalize V1.setRow W0.heap.size #[.int .i64 h, .int .i64 0, .int .i64 4, .int .i64 0, .int .i64 0, .int .i64 0, .int .i64 0, .int .i64 0, .string ⟨#[]⟩, .bool false] = S2 at R2 A2 K2 ⊢
    refine (c4.out (by trivial) _ (HTB.out.on K2.out)).mono ?_
    rintro e w3 ⟨rfl, hb⟩
    have R3 := Lib.hid (blk_on hb R2.out)
    have A3 := Lib.hid (blk_on hb A2.out)
    have K3 := Lib.hid (K2.out.trans (hb.mono K2.out.size))
    clear hb R2 A2 K2
    cases ob with
    | false =>
      have HE := Lib.hid (G0.out (by trivial))
      go_wp2_with (refine wpList_store_row rfl 31 _ _ rfl (w.heap.size) #[.int .i64 0, .int .i64 0, .int .i64 0, .int .i64 0, .int .i64 0, .int .i64 0, .int .i64 0, .int .i64 0, .string ⟨#[]⟩, .bool false] rfl rfl 31 _ R3.out (by kernel_rfl) rfl (by simp [Value.oneCell']) ?_)
      exact row_ret2 (r := w.heap.size) (cs := #[.int .i64 0, .int .i64 0, .int .i64 0, .int .i64 0, .int .i64 0, .int .i64 0, .int .i64 0, .int .i64 0, .string ⟨#[]⟩, .bool false]) rfl rfl rfl (setRow_heap _ _ _ _ _ _ R3.out) Tryd.underlying31 rfl (by kernel_rfl) rfl ⟨by rw [HE.out]; rfl, below_setRow K3.out (by omega) _⟩
    | true =>
      have HE := Lib.hid (G4.out (by trivial) (by trivial))
      go_wp2_with (first | (refine wpList_load_row rfl 31 _ rfl (W0.heap.size) rfl 31 _ (0, 0) _ A3.out Tryd.underlying31 rfl (by kernel_rfl) ?_) | (refine wpList_store_row rfl 31 _ _ rfl (w.heap.size) #[.int .i64 h, .int .i64 0, .int .i64 4, .int .i64 0, .int .i64 0, .int .i64 0, .int .i64 0, .int .i64 0, .string ⟨#[]⟩, .bool false] rfl rfl 31 _ R3.out (by kernel_rfl) rfl (by simp [Value.oneCell']) ?_))
      exact row_ret2 (r := w.heap.size) (cs := #[.int .i64 h, .int .i64 0, .int .i64 4, .int .i64 0, .int .i64 0, .int .i64 0, .int .i64 0, .int .i64 0, .string ⟨#[]⟩, .bool false]) rfl rfl rfl (setRow_heap _ _ _ _ _ _ R3.out) Tryd.underlying31 rfl (by kernel_rfl) rfl ⟨by rw [HE.out]; rfl, below_setRow K3.out (by omega) _⟩
  ·
    have hp' : (p != 4) = true := by simpa using hp
    obtain ⟨V1, hV1⟩ : ∃ V, W0.alloc (.cells #[.int .i64 0, .int .i64 0, .int .i64 0, .int .i64 0, .int .i64 0, .int .i64 0, .int .i64 0, .int .i64 0, .string ⟨#[]⟩, .bool false] 31) = V := ⟨_, rfl⟩
    have ltV1R : w.heap.size < W0.heap.size := blk_in R0.out
    have R1 : Hid (V1.heap[w.heap.size]? = some (.cells #[.int .i64 0, .int .i64 0, .int .i64 0, .int .i64 0, .int .i64 0, .int .i64 0, .int .i64 0, .int .i64 0, .string ⟨#[]⟩, .bool false] 31)) := by rw [← hV1]; exact alloc_blk R0.out
    have hb : Below W0.heap.size W0 V1 := by rw [← hV1]; exact (Below.refl _ W0).alloc (Nat.le_refl _) _
    have K1 := Lib.hid (K0.out.trans (hb.mono K0.out.size))
    have A1 : Hid (V1.heap[W0.heap.size]? = some (.cells #[.int .i64 0, .int .i64 0, .int .i64 0, .int .i64 0, .int .i64 0, .int .i64 0, .int .i64 0, .int .i64 0, .string ⟨#[]⟩, .bool false] 31)) := by rw [← hV1]; exact heap1 W0 _
    have lbV1 : w.heap.size ≤ W0.heap.size := K0.out.size
    clear hb R0 K0
    have R2 : Hid ((V1.setRow W0.heap.size #[.int .i64 h, .int .i64 0, .int .i64 p, .int .i64 0, .int .i64 0, .int .i64 0, .int .i64 0, .int .i64 0, .string ⟨#[]⟩, .bool false]).heap[w.heap.size]? = some (.cells #[.int .i64 0, .int .i64 0, .int .i64 0, .int .i64 0, .int .i64 0, .int .i64 0, .int .i64 0, .int .i64 0, .string ⟨#[]⟩, .bool false] 31)) := (setRow_other _ _ _ _ (by omega)).trans R1.out
    have A2 : Hid ((V1.setRow W0.heap.size #[.int .i64 h, .int .i64 0, .int .i64 p, .int .i64 0, .int .i64 0, .int .i64 0, .int .i64 0, .int .i64 0, .string ⟨#[]⟩, .bool false]).heap[W0.heap.size]? = some (.cells #[.int .i64 h, .int .i64 0, .int .i64 p, .int .i64 0, .int .i64 0, .int .i64 0, .int .i64 0, .int .i64 0, .string ⟨#[]⟩, .bool false] 31)) := setRow_heap _ _ _ _ _ _ A1.out
    have K2 : Hid (Below w.heap.size w (V1.setRow W0.heap.size #[.int .i64 h, .int .i64 0, .int .i64 p, .int .i64 0, .int .i64 0, .int .i64 0, .int .i64 0, .int .i64 0, .string ⟨#[]⟩, .bool false])) := below_setRow K1.out (by omega) _
    obtain ⟨⟨a0, a1, a2, a3, a4, a5, a6, a7, a8, a9⟩, az0, az1, az2, az3, az4, az5, az6, az7, az8, az9⟩ := blk10 A2.out
    obtain ⟨S3, qS3⟩ : ∃ W, setAll (V1.setRow W0.heap.size #[.int .i64 h, .int .i64 0, .int .i64 p, .int .i64 0, .int .i64 0, .int .i64 0, .int .i64 0, .int .i64 0, .string ⟨#[]⟩, .bool false]) W0.heap.size 1 [.int .i64 d] = W := ⟨_, rfl⟩
    have hS3 : ((V1.setRow W0.heap.size #[.int .i64 h, .int .i64 0, .int .i64 p, .int .i64 0, .int .i64 0, .int .i64 0, .int .i64 0, .int .i64 0, .string ⟨#[]⟩, .bool false]).setCell ⟨W0.heap.size, 1, none⟩ (.int .i64 d)) = S3 := qS3
    have R3 : Hid (S3.heap[w.heap.size]? = some (.cells #[.int .i64 0, .int .i64 0, .int .i64 0, .int .i64 0, .int .i64 0, .int .i64 0, .int .i64 0, .int .i64 0, .string ⟨#[]⟩, .bool false] 31)) := by rw [← qS3]; exact setAll_away (by omega) _ _ R2.out
    have A3 : Hid (S3.heap[W0.heap.size]? = some (.cells #[.int .i64 h, .int .i64 d, .int .i64 p, .int .i64 0, .int .i64 0, .int .i64 0, .int .i64 0, .int .i64 0, .string ⟨#[]⟩, .bool false] 31)) := by
      rw [← qS3]
      refine (setAll_blk (w := (V1.setRow W0.heap.size #[.int .i64 h, .int .i64 0, .int .i64 p, .int .i64 0, .int .i64 0, .int .i64 0, .int .i64 0, .int .i64 0, .string ⟨#[]⟩, .bool false])) (g := W0.heap.size) [.int .i64 d] 1 A2.out).trans ?_
      refine congrArg (fun z => some (Obj.cells z 31 (0, 0))) (Array.toList_inj.1 ?_)
      rw [overA_toList _ _ _ (by simp)]
      rfl
    have K3 : Hid (Below w.heap.size w S3) := by rw [← qS3]; exact setAll_below (g := W0.heap.size) (by omega) [.int .i64 d] 1 K2.out
    have zS3 : (V1.setRow W0.heap.size #[.int .i64 h, .int .i64 0, .int .i64 p, .int .i64 0, .int .i64 0, .int .i64 0, .int .i64 0, .int .i64 0, .string ⟨#[]⟩, .bool false]).heap.size = S3.heap.size := by rw [← qS3]; exact (setAll_size [.int .i64 d] 1 _).symm
    clear qS3 R2 A2 K2
    go_wp2_with (refine wpList_store_row rfl 31 _ _ rfl (W0.heap.size) #[.int .i64 h, .int .i64 0, .int .i64 p, .int .i64 0, .int .i64 0, .int .i64 0, .int .i64 0, .int .i64 0, .string ⟨#[]⟩, .bool false] rfl rfl 31 _ A1.out (by kernel_rfl) rfl (by simp [Value.oneCell']) ?_)
    clear a0 a1 a2 a3 a4 a5 a6 a7 a8 a9 az0 az1 az2 az3 az4 az5 az6 az7 az8 az9
    clear hW0 hV1 hS3
    obtain ⟨⟨a0, a1, a2, a3, a4, a5, a6, a7, a8, a9⟩, _⟩ := blk10 A3.out
    go_region_with (first | (go_at_call 24; refine (cK.out _).mono ?_; rintro e w5 ⟨rfl, b5⟩; have B5 : Hid (Below S3.heap.size S3 w5) := ⟨b5.os, b5.tape, b5.output, b5.size, b5.block⟩; clear b5; obtain ⟨⟨b0, b1, b2, b3, b4, b5, b6, b7, b8, b9⟩, _⟩ := blk10 (blk_on B5.out A3.out)) | (go_at_call 25; refine (cW.out _ (HTB.out.on (K3.out.trans (B5.out.mono K3.out.size)))).mono ?_; rintro e w6 ⟨rfl, b6⟩; have B6 := Lib.hid b6; clear b6) | (go_at_call 23; refine (cL.out _).mono ?_; rintro e w7 ⟨rfl, b7⟩; have B7 := Lib.hid b7; clear b7; obtain ⟨⟨g0, g1, g2, g3, g4, g5, g6, g7, g8, g9⟩, gz0, gz1, gz2, gz3, gz4, gz5, gz6, gz7, gz8, gz9⟩ := blk10 (blk_on B7.out (blk_on B6.out (blk_on B5.out A3.out)))))
    all_goals
      have hb : Below S3.heap.size S3 w7 := (B5.out.trans (B6.out.mono B5.out.size)).trans (B7.out.mono (Nat.le_trans B5.out.size B6.out.size))
      have R4 := Lib.hid (blk_on hb R3.out)
      have A4 := Lib.hid (blk_on hb A3.out)
      have K4 := Lib.hid (K3.out.trans (hb.mono K3.out.size))
      clear hb a0 a1 a2 a3 a4 a5 a6 a7 a8 a9 b0 b1 b2 b3 b4 b5 b6 b7 b8 b9 g0 g1 g2 g3 g4 g5 g6 g7 g8 g9 gz0 gz1 gz2 gz3 gz4 gz5 gz6 gz7 gz8 gz9 R3 A3 K3
      obtain ⟨S9, qS9⟩ : ∃ W, setAll w7 W0.heap.size 3 [.int .i64 xu, .int .i64 xs, .int .i64 xh, .int .i64 xa, .int .i64 xn, .string xt, .bool xp] = W := ⟨_, rfl⟩
      have hS9 : (((((((w7.setCell ⟨W0.heap.size, 3, none⟩ (.int .i64 xu)).setCell ⟨W0.heap.size, 4, none⟩ (.int .i64 xs)).setCell ⟨W0.heap.size, 5, none⟩ (.int .i64 xh)).setCell ⟨W0.heap.size, 6, none⟩ (.int .i64 xa)).setCell ⟨W0.heap.size, 7, none⟩ (.int .i64 xn)).setCell ⟨W0.heap.size, 8, none⟩ (.string xt)).setCell ⟨W0.heap.size, 9, none⟩ (.bool xp)) = S9 := qS9
      have R5 : Hid (S9.heap[w.heap.size]? = some (.cells #[.int .i64 0, .int .i64 0, .int .i64 0, .int .i64 0, .int .i64 0, .int .i64 0, .int .i64 0, .int .i64 0, .string ⟨#[]⟩, .bool false] 31)) := by rw [← qS9]; exact setAll_away (by omega) _ _ R4.out
      have A5 : Hid (S9.heap[W0.heap.size]? = some (.cells #[.int .i64 h, .int .i64 d, .int .i64 p, .int .i64 xu, .int .i64 xs, .int .i64 xh, .int .i64 xa, .int .i64 xn, .string xt, .bool xp] 31)) := by
        rw [← qS9]
        refine (setAll_blk (w := w7) (g := W0.heap.size) [.int .i64 xu, .int .i64 xs, .int .i64 xh, .int .i64 xa, .int .i64 xn, .string xt, .bool xp] 3 A4.out).trans ?_
        refine congrArg (fun z => some (Obj.cells z 31 (0, 0))) (Array.toList_inj.1 ?_)
        rw [overA_toList _ _ _ (by simp)]
        rfl
      have K5 : Hid (Below w.heap.size w S9) := by rw [← qS9]; exact setAll_below (g := W0.heap.size) (by omega) [.int .i64 xu, .int .i64 xs, .int .i64 xh, .int .i64 xa, .int .i64 xn, .string xt, .bool xp] 3 K4.out
      have zS9 : w7.heap.size = S9.heap.size := by rw [← qS9]; exact (setAll_size [.int .i64 xu, .int .i64 xs, .int .i64 xh, .int .i64 xa, .int .i64 xn, .string xt, .bool xp] 3 _).symm
      clear qS9 R4 A4 K4
      rw [hS9]
      clear hS9
      go_wp2_with (refine wpList_load_row rfl 31 _ rfl (W0.heap.size) rfl 31 _ (0, 0) _ A5.out Tryd.underlying31 rfl (by kernel_rfl) ?_)
      refine (cP.out hp _ (HTB.out.on K5.out)).mono ?_
      rintro e w10 ⟨rfl, hb⟩
      have R6 := Lib.hid (blk_on hb R5.out)
      have A6 := Lib.hid (blk_on hb A5.out)
      have K6 := Lib.hid (K5.out.trans (hb.mono K5.out.size))
      clear hb R5 A5 K5
      cases ob with
      | false =>
        have HE := Lib.hid (G0.out (by trivial))
        go_wp2_with (refine wpList_store_row rfl 31 _ _ rfl (w.heap.size) #[.int .i64 0, .int .i64 0, .int .i64 0, .int .i64 0, .int .i64 0, .int .i64 0, .int .i64 0, .int .i64 0, .string ⟨#[]⟩, .bool false] rfl rfl 31 _ R6.out (by kernel_rfl) rfl (by simp [Value.oneCell']) ?_)
        exact row_ret2 (r := w.heap.size) (cs := #[.int .i64 0, .int .i64 0, .int .i64 0, .int .i64 0, .int .i64 0, .int .i64 0, .int .i64 0, .int .i64 0, .string ⟨#[]⟩, .bool false]) rfl rfl rfl (setRow_heap _ _ _ _ _ _ R6.out) Tryd.underlying31 rfl (by kernel_rfl) rfl ⟨by rw [HE.out]; rfl, below_setRow K6.out (by omega) _⟩
      | true =>
        have HE := Lib.hid (G1.out hp (by trivial))
        go_wp2_with (first | (refine wpList_load_row rfl 31 _ rfl (W0.heap.size) rfl 31 _ (0, 0) _ A6.out Tryd.underlying31 rfl (by kernel_rfl) ?_) | (refine wpList_store_row rfl 31 _ _ rfl (w.heap.size) #[.int .i64 h, .int .i64 d, .int .i64 p, .int .i64 xu, .int .i64 xs, .int .i64 xh, .int .i64 xa, .int .i64 xn, .string xt, .bool xp] rfl rfl 31 _ R6.out (by kernel_rfl) rfl (by simp [Value.oneCell']) ?_))
        exact row_ret2 (r := w.heap.size) (cs := #[.int .i64 h, .int .i64 d, .int .i64 p, .int .i64 xu, .int .i64 xs, .int .i64 xh, .int .i64 xa, .int .i64 xn, .string xt, .bool xp]) rfl rfl rfl (setRow_heap _ _ _ _ _ _ R6.out) Tryd.underlying31 rfl (by kernel_rfl) rfl ⟨by rw [HE.out]; rfl, below_setRow K6.out (by omega) _⟩

end Go.Proofs.YtdnkpdfhnpmhbaaDoor.Tx

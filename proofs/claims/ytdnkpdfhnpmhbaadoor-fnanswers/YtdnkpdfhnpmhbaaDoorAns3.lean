/-
  What Proves of the model answers. Condition: a pick is an int64.
-/
import Derived.Test.YtdnkpdfhnpmhbaaDoorAns
namespace Go.Proofs.YtdnkpdfhnpmhbaaDoor.Tx
open Go.RowKit

set_option maxHeartbeats 16000000 in
theorem Proves_spec (a : AnsV) (s : Int) (hi : I64 a.p) (w : World) : Calls Tryd.prog 12 #[a.val, .int .i64 s] w fun e w' => e = .returned (.bool (provesB a s)) ∧ Below w.heap.size w w' := by
  obtain ⟨ah, ad, ap, ⟨⟨xu, xs, xh, xa⟩, xn, xt, xp⟩⟩ := a
  have HV : Hid (AnsV.val ⟨ah, ad, ap, ⟨⟨xu, xs, xh, xa⟩, xn, xt, xp⟩⟩ = .agg #[.int .i64 ah, .int .i64 ad, .int .i64 ap, .int .i64 xu, .int .i64 xs, .int .i64 xh, .int .i64 xa, .int .i64 xn, .string xt, .bool xp]) := rfl
  rw [HV.out]
  dsimp only at hi
  have H0 : Hid (ansOkB ⟨ah, ad, ap, ⟨⟨xu, xs, xh, xa⟩, xn, xt, xp⟩⟩ = false → provesB ⟨ah, ad, ap, ⟨⟨xu, xs, xh, xa⟩, xn, xt, xp⟩⟩ s = false) := fun e => by rw [provesB, e]; rfl
  have H4 : Hid (ansOkB ⟨ah, ad, ap, ⟨⟨xu, xs, xh, xa⟩, xn, xt, xp⟩⟩ = true → ap = 4 → provesB ⟨ah, ad, ap, ⟨⟨xu, xs, xh, xa⟩, xn, xt, xp⟩⟩ s = true) := fun e hp => by rw [provesB, e]; dsimp only; rw [beq_int hp]; rfl
  have H1 : Hid (ansOkB ⟨ah, ad, ap, ⟨⟨xu, xs, xh, xa⟩, xn, xt, xp⟩⟩ = true → ap ≠ 4 → provesB ⟨ah, ad, ap, ⟨⟨xu, xs, xh, xa⟩, xn, xt, xp⟩⟩ s = (openB ⟨⟨xu, xs, xh, xa⟩, xn, xt, xp⟩ (handK (secB ⟨ah, ad, ap, ⟨⟨xu, xs, xh, xa⟩, xn, xt, xp⟩⟩ s) ah ad) 0 && ((openT ⟨⟨xu, xs, xh, xa⟩, xn, xt, xp⟩ (handK (secB ⟨ah, ad, ap, ⟨⟨xu, xs, xh, xa⟩, xn, xt, xp⟩⟩ s) ah ad) 0).toList == (intT ap).toList) && goesB ap (secB ⟨ah, ad, ap, ⟨⟨xu, xs, xh, xa⟩, xn, xt, xp⟩⟩ s))) := fun e hp => proves_parts e hp
  have cA : Hid (∀ w' : World, Calls Tryd.prog 14 #[.agg #[.int .i64 ah, .int .i64 ad, .int .i64 ap, .int .i64 xu, .int .i64 xs, .int .i64 xh, .int .i64 xa, .int .i64 xn, .string xt, .bool xp]] w' fun e w'' => e = .returned (.bool (ansOkB ⟨ah, ad, ap, ⟨⟨xu, xs, xh, xa⟩, xn, xt, xp⟩⟩)) ∧ Below w'.heap.size w' w'') := fun w' => by exact AnswerOk_spec ⟨ah, ad, ap, ⟨⟨xu, xs, xh, xa⟩, xn, xt, xp⟩⟩ w'
  have cT := Lib.hid fun w' => l1Int_any ap hi w'
  have cG := fun w' => l11Goes_any ap (secB ⟨ah, ad, ap, ⟨⟨xu, xs, xh, xa⟩, xn, xt, xp⟩⟩ s) w'
  have cK := fun w' => HandKey_spec (secB ⟨ah, ad, ap, ⟨⟨xu, xs, xh, xa⟩, xn, xt, xp⟩⟩ s) ah ad w'
  have cO := fun w' => Opened_spec ⟨⟨xu, xs, xh, xa⟩, xn, xt, xp⟩ (handK (secB ⟨ah, ad, ap, ⟨⟨xu, xs, xh, xa⟩, xn, xt, xp⟩⟩ s) ah ad) 0 w'
  have HK : rightK ⟨3, secB ⟨ah, ad, ap, ⟨⟨xu, xs, xh, xa⟩, xn, xt, xp⟩⟩ s, ah, ad⟩ = handK (secB ⟨ah, ad, ap, ⟨⟨xu, xs, xh, xa⟩, xn, xt, xp⟩⟩ s) ah ad := rfl
  rw [HK] at cK
  clear HK
  generalize ansOkB ⟨ah, ad, ap, ⟨⟨xu, xs, xh, xa⟩, xn, xt, xp⟩⟩ = zo at H0 H4 H1 cA
  generalize intT ap = tx at cT H1
  clear HV
  obtain ⟨W0, hW0⟩ : ∃ W, w.alloc (.cells #[.int .i64 ah, .int .i64 ad, .int .i64 ap, .int .i64 xu, .int .i64 xs, .int .i64 xh, .int .i64 xa, .int .i64 xn, .string xt, .bool xp] 31) = W := ⟨_, rfl⟩
  have K0 : Hid (Below w.heap.size w W0) := by rw [← hW0]; exact (Below.refl _ w).alloc (Nat.le_refl _) _
  have A0 : Hid (W0.heap[w.heap.size]? = some (.cells #[.int .i64 ah, .int .i64 ad, .int .i64 ap, .int .i64 xu, .int .i64 xs, .int .i64 xh, .int .i64 xa, .int .i64 xn, .string xt, .bool xp] 31)) := by rw [← hW0]; exact heap1 w _
  go_enter Tryd.func12, Tryd.ntmps12
  go_wp2_with (refine wpList_load_row rfl 31 _ rfl (w.heap.size) rfl 31 _ (0, 0) _ A0.out Tryd.underlying31 rfl (by kernel_rfl) ?_)
  clear hW0
  refine (cA.out _).mono ?_
  rintro e w1 ⟨rfl, hb⟩
  have A1 := Lib.hid (blk_on hb A0.out)
  have K1 := Lib.hid (K0.out.trans (hb.mono K0.out.size))
  clear hb A0 K0
  cases zo with
  | false =>
    have HE := Lib.hid (H0.out rfl)
    go_wp2_with fail
    go_ret
    exact ⟨by rw [HE.out]; rfl, K1.out⟩
  | true =>
    by_cases hp : ap = 4
    ·
      have HE := Lib.hid (H4.out rfl hp)
      have hp' : (ap == 4) = true := by simpa using hp
      clear hp
      obtain ⟨⟨a0, a1, a2, a3, a4, a5, a6, a7, a8, a9⟩, _⟩ := blk10 A1.out
      go_wp2_with fail
      go_ret
      exact ⟨by rw [HE.out]; rfl, K1.out⟩
    ·
      have hp' : (ap == 4) = false := by simpa using hp
      by_cases h1 : ap = 1
      ·
        have h1q : (ap == 1) = true := by simpa using h1
        have hS : secB ⟨ah, ad, ap, ⟨⟨xu, xs, xh, xa⟩, xn, xt, xp⟩⟩ s = 0 := by rw [secB]; dsimp only; rw [h1q]; rfl
        have HE' := Lib.hid (H1.out rfl hp)
        rw [hS] at cK cO cG HE'
        clear hS H1 h1
        obtain ⟨⟨ku, ks, kh, ka⟩, hk⟩ : ∃ x, handK 0 ah ad = x := ⟨_, rfl⟩
        rw [hk] at cK cO HE'
        clear hk
        generalize openB ⟨⟨xu, xs, xh, xa⟩, xn, xt, xp⟩ ⟨ku, ks, kh, ka⟩ 0 = ob at cO HE'
        generalize openT ⟨⟨xu, xs, xh, xa⟩, xn, xt, xp⟩ ⟨ku, ks, kh, ka⟩ 0 = ot at cO HE'
        generalize goesB ap 0 = zg at cG HE'
        have HE : Hid (provesB ⟨ah, ad, ap, ⟨⟨xu, xs, xh, xa⟩, xn, xt, xp⟩⟩ s = (ob && (ot.toList == tx.toList) && zg)) := HE'.out
        clear HE'
        have cK1 : Hid (∀ w' : World, Calls Tryd.prog 31 #[.int .i64 0, .int .i64 ah, .int .i64 ad] w' fun e w'' => e = .returned (.agg #[.int .i64 ku, .int .i64 ks, .int .i64 kh, .int .i64 ka]) ∧ Below w'.heap.size w' w'') := fun w' => cK w'
        have cO1 : Hid (∀ w' : World, Calls Tryd.prog 34 #[.agg #[.int .i64 xu, .int .i64 xs, .int .i64 xh, .int .i64 xa, .int .i64 xn, .string xt, .bool xp], .agg #[.int .i64 ku, .int .i64 ks, .int .i64 kh, .int .i64 ka], .int .i64 0] w' fun e w'' => e = .returned (.tuple #[.string ot, .bool ob]) ∧ Below w'.heap.size w' w'') := fun w' => cO w'
        have cG1 := Lib.hid cG
        clear cK cO cG
        obtain ⟨⟨a0, a1, a2, a3, a4, a5, a6, a7, a8, a9⟩, _⟩ := blk10 A1.out
        go_wp2_with fail
        clear a0 a1 a2 a3 a4 a5 a6 a7 a8 a9
        refine wp_region_own (W := w1) [] (fun _ => True) stays_true trivial [0, 0, 0, 0, 0, 0, 0, 1, 1, 0, 0, 0, 0, 0] (by kernel_rfl) (by kernel_rfl) (by kernel_rfl) ?_
        have fA : ∀ q : In (plainEnv w1 []), _ := fun q => (blk10 (q.block A1.out (by simp))).1
        refine wpO_quiet 7 rfl (by kernel_rfl) ?_
        simp only [List.take, List.drop]
        repeat (go_big_quiet_step (fail))
        refine wpQuiet_nil ?_
        refine wpO_call (f := 31) (args := #[.int .i64 0, .int .i64 ah, .int .i64 ad]) (.agg #[.int .i64 ku, .int .i64 ks, .int .i64 kh, .int .i64 ka]) rfl (fun w' => by simp [go_sem]) (fun w' hC _ => cK1.out w') ?_
        simp only [Act.put, List.setIfInBounds_toArray, List.set_cons_succ, List.set_cons_zero]
        refine wpO_call (f := 34) (args := #[.agg #[.int .i64 xu, .int .i64 xs, .int .i64 xh, .int .i64 xa, .int .i64 xn, .string xt, .bool xp], .agg #[.int .i64 ku, .int .i64 ks, .int .i64 kh, .int .i64 ka], .int .i64 0]) (.tuple #[.string ot, .bool ob]) rfl (fun w' => by simp [go_sem]) (fun w' hC _ => cO1.out w') ?_
        simp only [Act.put, List.setIfInBounds_toArray, List.set_cons_succ, List.set_cons_zero]
        refine wpO_quiet 5 rfl (by kernel_rfl) ?_
        simp only [List.take, List.drop]
        repeat (go_big_quiet_step (fail))
        refine wpQuiet_nil ?_
        refine wpO_nil ?_
        rintro w2 hb' _
        have hb := kept_below hb'
        have A2 := Lib.hid (blk_on hb A1.out)
        have K2 := Lib.hid (K1.out.trans (hb.mono K1.out.size))
        clear fA hb hb' A1 K1
        cases ob with
        | false =>
          go_wp2_with fail
          go_ret
          exact ⟨by rw [HE.out]; rfl, K2.out⟩
        | true =>
          obtain ⟨⟨a0, a1, a2, a3, a4, a5, a6, a7, a8, a9⟩, _⟩ := blk10 A2.out
          go_wp2_with fail
          clear a0 a1 a2 a3 a4 a5 a6 a7 a8 a9
          refine (cT.out _).mono ?_
          rintro e w3 ⟨rfl, hb⟩
          have A3 := Lib.hid (blk_on hb A2.out)
          have K3 := Lib.hid (K2.out.trans (hb.mono K2.out.size))
          clear hb A2 K2
          cases ht : ot.toList == tx.toList
          ·
            rw [ht] at HE
            go_wp2_with fail
            go_ret
            exact ⟨by rw [HE.out]; rfl, K3.out⟩
          ·
            rw [ht] at HE
            obtain ⟨⟨a0, a1, a2, a3, a4, a5, a6, a7, a8, a9⟩, _⟩ := blk10 A3.out
            go_wp2_with fail
            clear a0 a1 a2 a3 a4 a5 a6 a7 a8 a9
            refine (cG1.out _).mono ?_
            rintro e w4 ⟨rfl, hb⟩
            have A4 := Lib.hid (blk_on hb A3.out)
            have K4 := Lib.hid (K3.out.trans (hb.mono K3.out.size))
            clear hb A3 K3
            go_wp2_with fail
            go_ret
            exact ⟨by rw [HE.out]; rfl, K4.out⟩
      ·
        have h1q : (ap == 1) = false := by simpa using h1
        have hS : secB ⟨ah, ad, ap, ⟨⟨xu, xs, xh, xa⟩, xn, xt, xp⟩⟩ s = s := by rw [secB]; dsimp only; rw [h1q]; rfl
        have HE' := Lib.hid (H1.out rfl hp)
        rw [hS] at cK cO cG HE'
        clear hS H1 h1
        obtain ⟨⟨ku, ks, kh, ka⟩, hk⟩ : ∃ x, handK s ah ad = x := ⟨_, rfl⟩
        rw [hk] at cK cO HE'
        clear hk
        generalize openB ⟨⟨xu, xs, xh, xa⟩, xn, xt, xp⟩ ⟨ku, ks, kh, ka⟩ 0 = ob at cO HE'
        generalize openT ⟨⟨xu, xs, xh, xa⟩, xn, xt, xp⟩ ⟨ku, ks, kh, ka⟩ 0 = ot at cO HE'
        generalize goesB ap s = zg at cG HE'
        have HE : Hid (provesB ⟨ah, ad, ap, ⟨⟨xu, xs, xh, xa⟩, xn, xt, xp⟩⟩ s = (ob && (ot.toList == tx.toList) && zg)) := HE'.out
        clear HE'
        have cK1 : Hid (∀ w' : World, Calls Tryd.prog 31 #[.int .i64 s, .int .i64 ah, .int .i64 ad] w' fun e w'' => e = .returned (.agg #[.int .i64 ku, .int .i64 ks, .int .i64 kh, .int .i64 ka]) ∧ Below w'.heap.size w' w'') := fun w' => cK w'
        have cO1 : Hid (∀ w' : World, Calls Tryd.prog 34 #[.agg #[.int .i64 xu, .int .i64 xs, .int .i64 xh, .int .i64 xa, .int .i64 xn, .string xt, .bool xp], .agg #[.int .i64 ku, .int .i64 ks, .int .i64 kh, .int .i64 ka], .int .i64 0] w' fun e w'' => e = .returned (.tuple #[.string ot, .bool ob]) ∧ Below w'.heap.size w' w'') := fun w' => cO w'
        have cG1 := Lib.hid cG
        clear cK cO cG
        obtain ⟨⟨a0, a1, a2, a3, a4, a5, a6, a7, a8, a9⟩, _⟩ := blk10 A1.out
        go_wp2_with fail
        clear a0 a1 a2 a3 a4 a5 a6 a7 a8 a9
        refine wp_region_own (W := w1) [] (fun _ => True) stays_true trivial [0, 0, 0, 0, 0, 0, 0, 1, 1, 0, 0, 0, 0, 0] (by kernel_rfl) (by kernel_rfl) (by kernel_rfl) ?_
        have fA : ∀ q : In (plainEnv w1 []), _ := fun q => (blk10 (q.block A1.out (by simp))).1
        refine wpO_quiet 7 rfl (by kernel_rfl) ?_
        simp only [List.take, List.drop]
        repeat (go_big_quiet_step (fail))
        refine wpQuiet_nil ?_
        refine wpO_call (f := 31) (args := #[.int .i64 s, .int .i64 ah, .int .i64 ad]) (.agg #[.int .i64 ku, .int .i64 ks, .int .i64 kh, .int .i64 ka]) rfl (fun w' => by simp [go_sem]) (fun w' hC _ => cK1.out w') ?_
        simp only [Act.put, List.setIfInBounds_toArray, List.set_cons_succ, List.set_cons_zero]
        refine wpO_call (f := 34) (args := #[.agg #[.int .i64 xu, .int .i64 xs, .int .i64 xh, .int .i64 xa, .int .i64 xn, .string xt, .bool xp], .agg #[.int .i64 ku, .int .i64 ks, .int .i64 kh, .int .i64 ka], .int .i64 0]) (.tuple #[.string ot, .bool ob]) rfl (fun w' => by simp [go_sem]) (fun w' hC _ => cO1.out w') ?_
        simp only [Act.put, List.setIfInBounds_toArray, List.set_cons_succ, List.set_cons_zero]
        refine wpO_quiet 5 rfl (by kernel_rfl) ?_
        simp only [List.take, List.drop]
        repeat (go_big_quiet_step (fail))
        refine wpQuiet_nil ?_
        refine wpO_nil ?_
        rintro w2 hb' _
        have hb := kept_below hb'
        have A2 := Lib.hid (blk_on hb A1.out)
        have K2 := Lib.hid (K1.out.trans (hb.mono K1.out.size))
        clear fA hb hb' A1 K1
        cases ob with
        | false =>
          go_wp2_with fail
          go_ret
          exact ⟨by rw [HE.out]; rfl, K2.out⟩
        | true =>
          obtain ⟨⟨a0, a1, a2, a3, a4, a5, a6, a7, a8, a9⟩, _⟩ := blk10 A2.out
          go_wp2_with fail
          clear a0 a1 a2 a3 a4 a5 a6 a7 a8 a9
          refine (cT.out _).mono ?_
          rintro e w3 ⟨rfl, hb⟩
          have A3 := Lib.hid (blk_on hb A2.out)
          have K3 := Lib.hid (K2.out.trans (hb.mono K2.out.size))
          clear hb A2 K2
          cases ht : ot.toList == tx.toList
          ·
            rw [ht] at HE
            go_wp2_with fail
            go_ret
            exact ⟨by rw [HE.out]; rfl, K3.out⟩
          ·
            rw [ht] at HE
            obtain ⟨⟨a0, a1, a2, a3, a4, a5, a6, a7, a8, a9⟩, _⟩ := blk10 A3.out
            go_wp2_with fail
            clear a0 a1 a2 a3 a4 a5 a6 a7 a8 a9
            refine (cG1.out _).mono ?_
            rintro e w4 ⟨rfl, hb⟩
            have A4 := Lib.hid (blk_on hb A3.out)
            have K4 := Lib.hid (K3.out.trans (hb.mono K3.out.size))
            clear hb A3 K3
            go_wp2_with fail
            go_ret
            exact ⟨by rw [HE.out]; rfl, K4.out⟩

end Go.Proofs.YtdnkpdfhnpmhbaaDoor.Tx

/-
  What Hand and Fallen of the model answer. Conditions: at most 1048576 numbers in the memory, as many seats, and of each as many words.
-/
import Derived.Test.YtioogmeghmeelaaGreatInnFacts
import Derived.Test.YtioogmeghmeelaaGreatInn9
import Derived.Test.YtioogmeghmeelaaGreatIn
namespace Go.Proofs.YtioogmeghmeelaaGreat.Tx
open Go.RowKit

set_option maxRecDepth 100000 in
set_option maxHeartbeats 32000000 in
theorem Fallen_spec (M : Option Addr) (nm cm : Nat) (zs : List Int) (s : Int) (A : Option Addr) (n cap : Nat) (ss : List SeatL) (now : Int) (w : World) (h : InnO w w.heap.size M nm A n zs ss) (hMz : M = none → cm = 0) (hnm : nm ≤ 1048576) (hn : n ≤ 1048576) (hl : ∀ q ∈ ss, q.l.length ≤ 1048576) :
    Calls Tryz.prog 5 #[.agg #[.slice M nm cm, .int .i64 s, .slice A n cap], .int .i64 now] w fun e w' => ∃ i : InnH, e = .returned (.tuple #[i.val (fallT zs s ss now), .bool (fallB zs s ss now)]) ∧ HeldI w' w.heap.size i (fallZ zs s ss now) (fallL zs s ss now) ∧ Below w.heap.size w w' := by
  have E := Lib.hid h
  have HL := Lib.hid hl
  have hlen := h.seats.len
  have cO : Hid (∀ (w' : World), InnO w' w'.heap.size M nm A n zs ss → Calls Tryz.prog 13 #[.agg #[.slice M nm cm, .int .i64 s, .slice A n cap]] w' fun e w'' => e = .returned (.bool (innOkB zs s ss)) ∧ Below w'.heap.size w' w'') := fun w' hE => InnOk_spec M nm cm zs s A n cap ss w' hE.mem hE.seats hnm hn
  have cC : Hid (∀ (w' : World), InnO w' w'.heap.size M nm A n zs ss → Calls Tryz.prog 15 #[.agg #[.slice M nm cm, .int .i64 s, .slice A n cap]] w' fun e w'' => ∃ i : InnH, e = .returned (i.val s) ∧ i.mn = nm ∧ i.n = n ∧ HeldI w'' w'.heap.size i zs ss ∧ Below w'.heap.size w' w'') := fun w' hE => l15Copy_any M nm cm zs s A n cap ss w' hE hMz hnm hn hl
  obtain ⟨bo, hok⟩ : ∃ b, innOkB zs s ss = b := ⟨_, rfl⟩
  clear h hl
  obtain ⟨W0, hW0⟩ : ∃ W, (w.alloc (.cells #[.slice M nm cm, .int .i64 s, .slice A n cap] 32)).alloc (.cells #[.slice none 0 0, .int .i64 0, .slice none 0 0] 32) = W := ⟨_, rfl⟩
  have K0 : Hid (Below w.heap.size w W0) := by rw [← hW0]; exact ((Below.refl _ w).alloc (Nat.le_refl _) _).alloc (by simp; try omega) _
  have Q0 : Hid (W0.heap[w.heap.size]? = some (.cells #[.slice M nm cm, .int .i64 s, .slice A n cap] 32)) := by rw [← hW0]; exact heap2a w _ _
  have R0 : Hid (W0.heap[w.heap.size + 1]? = some (.cells #[.slice none 0 0, .int .i64 0, .slice none 0 0] 32)) := by rw [← hW0]; exact heap2b w _ _
  have zW0 : W0.heap.size = w.heap.size + 2 := by rw [← hW0]; simp
  go_enter Tryz.func5, Tryz.ntmps5
  go_wp2_with (refine wpList_load_row rfl 32 _ rfl (w.heap.size) rfl 32 _ (0, 0) _ Q0.out Tryz.underlying32 rfl (by kernel_rfl) ?_)
  clear hW0
  have cz := cO.out _ ((E.out.below K0.out).mono K0.out.size)
  rw [hok] at cz
  refine cz.mono ?_
  rintro e w1 ⟨rfl, hb⟩
  have hs1 := hb.size
  clear cz
  have Q1 := Lib.hid (blk_on hb Q0.out)
  have R1 := Lib.hid (blk_on hb R0.out)
  have K1 := Lib.hid (K0.out.trans (hb.mono K0.out.size))
  clear hb Q0 R0 K0
  cases bo with
  | false =>
    have HE9 := Lib.hid (fall_bad hok now)
    go_wp2_with (refine wpList_store_row rfl 32 _ _ rfl (w.heap.size + 1) #[.slice none 0 0, .int .i64 0, .slice none 0 0] rfl rfl 32 _ R1.out (by kernel_rfl) rfl (by simp [Value.oneCell']) ?_)
    exact row_ret2 (r := w.heap.size + 1) (cs := #[.slice none 0 0, .int .i64 0, .slice none 0 0]) rfl rfl rfl (setRow_heap _ _ _ _ _ _ R1.out) Tryz.underlying32 rfl (by kernel_rfl) rfl ⟨(InnH.mk none 0 0 none 0 0 []), by rw [HE9.out.2.2.2, HE9.out.1]; rfl, by rw [HE9.out.2.1, HE9.out.2.2.1]; exact ⟨ownN_nil _ _, heldS_nil _ _, fun k e => by cases e⟩, below_setRow K1.out (by omega) _⟩
  | true =>
    go_wp2_with fail
    refine (NewMemory_spec now w1).mono ?_
    rintro e w2 ⟨NA, nn, nc, rfl, hM, hb⟩
    have NM := Lib.hid hM
    have hnl : ∀ t, blkN NA = some t → w1.heap.size ≤ t ∧ t < w2.heap.size := fun t e => hM.lt e
    have hs2 := hb.size
    clear hM
    have Q2 := Lib.hid (blk_on hb Q1.out)
    have R2 := Lib.hid (blk_on hb R1.out)
    have K2 := Lib.hid (K1.out.trans (hb.mono K1.out.size))
    clear hb Q1 R1 K1
    obtain ⟨V3, hV3⟩ : ∃ V, w2.alloc (.cells #[.slice none 0 0, .int .i64 0] 29) = V := ⟨_, rfl⟩
    have ltV3Q : w.heap.size < w2.heap.size := blk_in Q2.out
    have ltV3R : w.heap.size + 1 < w2.heap.size := blk_in R2.out
    have Q3 : Hid (V3.heap[w.heap.size]? = some (.cells #[.slice M nm cm, .int .i64 s, .slice A n cap] 32)) := by rw [← hV3]; exact alloc_blk Q2.out
    have R3 : Hid (V3.heap[w.heap.size + 1]? = some (.cells #[.slice none 0 0, .int .i64 0, .slice none 0 0] 32)) := by rw [← hV3]; exact alloc_blk R2.out
    have hb : Below w2.heap.size w2 V3 := by rw [← hV3]; exact (Below.refl _ w2).alloc (Nat.le_refl _) _
    have K3 := Lib.hid (K2.out.trans (hb.mono K2.out.size))
    have M3 : Hid (V3.heap[w2.heap.size]? = some (.cells #[.slice none 0 0, .int .i64 0] 29)) := by rw [← hV3]; exact heap1 w2 _
    have lbV3 : w.heap.size ≤ w2.heap.size := K2.out.size
    clear hb Q2 R2 K2
    obtain ⟨ns, hns⟩ : ∃ x, sinceI [] now = x := ⟨_, rfl⟩
    rw [hns]
    have Q4 : Hid ((V3.setRow w2.heap.size #[.slice NA nn nc, .int .i64 ns]).heap[w.heap.size]? = some (.cells #[.slice M nm cm, .int .i64 s, .slice A n cap] 32)) := (setRow_other _ _ _ _ (by omega)).trans Q3.out
    have R4 : Hid ((V3.setRow w2.heap.size #[.slice NA nn nc, .int .i64 ns]).heap[w.heap.size + 1]? = some (.cells #[.slice none 0 0, .int .i64 0, .slice none 0 0] 32)) := (setRow_other _ _ _ _ (by omega)).trans R3.out
    have M4 : Hid ((V3.setRow w2.heap.size #[.slice NA nn nc, .int .i64 ns]).heap[w2.heap.size]? = some (.cells #[.slice NA nn nc, .int .i64 ns] 29)) := setRow_heap _ _ _ _ _ _ M3.out
    have K4 : Hid (Below w.heap.size w (V3.setRow w2.heap.size #[.slice NA nn nc, .int .i64 ns])) := below_setRow K3.out (by omega) _
    have NM1 : OwnN V3 w1.heap.size [] NA nn nc := by rw [← hV3]; exact NM.out.alloc _
    have NM2 : Hid (OwnN (V3.setRow w2.heap.size #[.slice NA nn nc, .int .i64 ns]) w1.heap.size [] NA nn nc) := NM1.heap (fun t e => setRow_other _ _ _ _ (by have := hnl t e; omega))
    clear NM NM1
    have zV : V3.heap.size = w2.heap.size + 1 := by rw [← hV3]; simp
    have zS := size_setRow V3 w2.heap.size #[.slice NA nn nc, .int .i64 ns]
    cases hm : memB [] now with
    | false =>
      have hno := fall_no hok (now := now) (.inl hm)
      have HE9 := Lib.hid hno
      clear hno
      obtain ⟨⟨q0, q1, q2⟩, _⟩ := blk3 Q4.out
      go_wp2_with (first | (refine wpList_store_row rfl 29 _ _ rfl (w2.heap.size) #[.slice NA nn nc, .int .i64 ns] rfl rfl 29 _ M3.out (by kernel_rfl) rfl (by simp [Value.oneCell']) ?_) | (refine wpList_load_row rfl 32 _ rfl (w.heap.size) rfl 32 _ (0, 0) _ Q4.out Tryz.underlying32 rfl (by kernel_rfl) ?_))
      clear q0 q1 q2
      clear hV3 Q3 R3 M3 K3
      generalize V3.setRow w2.heap.size #[.slice NA nn nc, .int .i64 ns] = S4 at Q4 R4 M4 K4 NM2 zS ⊢
      refine (cC.out _ ((E.out.below K4.out).mono K4.out.size)).mono ?_
      rintro e wc ⟨⟨iM, im, ic, iA, il, iC, ih⟩, rfl, hm1, hm2, HI, hb⟩
      obtain rfl : nm = im := hm1.symm
      obtain rfl : n = il := hm2.symm
      have hzc : W0.heap.size ≤ S4.heap.size := by omega
      have HH := Lib.hid (HI.mono hzc)
      have hzd := hb.size
      clear HI
      have Q5 := Lib.hid (blk_on hb Q4.out)
      have R5 := Lib.hid (blk_on hb R4.out)
      have M5 := Lib.hid (blk_on hb M4.out)
      have K5 := Lib.hid (K4.out.trans (hb.mono K4.out.size))
      clear hb Q4 R4 M4 K4
      have HH2 := HH
      go_wp2_with (refine wpList_store_row rfl 32 _ _ rfl (w.heap.size + 1) #[.slice iM nm ic, .int .i64 s, .slice iA n iC] rfl rfl 32 _ R5.out (by kernel_rfl) rfl (by simp [Value.oneCell']) ?_)
      exact row_ret2 (r := w.heap.size + 1) (cs := #[.slice iM nm ic, .int .i64 s, .slice iA n iC]) rfl rfl rfl (setRow_heap _ _ _ _ _ _ R5.out) Tryz.underlying32 rfl (by kernel_rfl) rfl ⟨(InnH.mk iM nm ic iA n iC ih), by rw [HE9.out.2.2.2, HE9.out.1]; rfl, by rw [HE9.out.2.1, HE9.out.2.2.1]; exact (HH2.out.heap (fun t e => setRow_other _ _ _ _ (by have := (HH2.out.foot e).1; omega)) (Nat.le_of_eq (size_setRow _ _ _).symm)).mono (by omega), below_setRow K5.out (by omega) _⟩
    | true =>
      by_cases hlt : now < s
      ·
        have hno := fall_no hok (now := now) (.inr hlt)
        have HE9 := Lib.hid hno
        clear hno
        obtain ⟨⟨q0, q1, q2⟩, _⟩ := blk3 Q4.out
        go_wp2_with (first | (refine wpList_store_row rfl 29 _ _ rfl (w2.heap.size) #[.slice NA nn nc, .int .i64 ns] rfl rfl 29 _ M3.out (by kernel_rfl) rfl (by simp [Value.oneCell']) ?_) | (refine wpList_load_row rfl 32 _ rfl (w.heap.size) rfl 32 _ (0, 0) _ Q4.out Tryz.underlying32 rfl (by kernel_rfl) ?_))
        clear q0 q1 q2
        clear hV3 Q3 R3 M3 K3
        generalize V3.setRow w2.heap.size #[.slice NA nn nc, .int .i64 ns] = S4 at Q4 R4 M4 K4 NM2 zS ⊢
        refine (cC.out _ ((E.out.below K4.out).mono K4.out.size)).mono ?_
        rintro e wc ⟨⟨iM, im, ic, iA, il, iC, ih⟩, rfl, hm1, hm2, HI, hb⟩
        obtain rfl : nm = im := hm1.symm
        obtain rfl : n = il := hm2.symm
        have hzc : W0.heap.size ≤ S4.heap.size := by omega
        have HH := Lib.hid (HI.mono hzc)
        have hzd := hb.size
        clear HI
        have Q5 := Lib.hid (blk_on hb Q4.out)
        have R5 := Lib.hid (blk_on hb R4.out)
        have M5 := Lib.hid (blk_on hb M4.out)
        have K5 := Lib.hid (K4.out.trans (hb.mono K4.out.size))
        clear hb Q4 R4 M4 K4
        have HH2 := HH
        go_wp2_with (refine wpList_store_row rfl 32 _ _ rfl (w.heap.size + 1) #[.slice iM nm ic, .int .i64 s, .slice iA n iC] rfl rfl 32 _ R5.out (by kernel_rfl) rfl (by simp [Value.oneCell']) ?_)
        exact row_ret2 (r := w.heap.size + 1) (cs := #[.slice iM nm ic, .int .i64 s, .slice iA n iC]) rfl rfl rfl (setRow_heap _ _ _ _ _ _ R5.out) Tryz.underlying32 rfl (by kernel_rfl) rfl ⟨(InnH.mk iM nm ic iA n iC ih), by rw [HE9.out.2.2.2, HE9.out.1]; rfl, by rw [HE9.out.2.1, HE9.out.2.2.1]; exact (HH2.out.heap (fun t e => setRow_other _ _ _ _ (by have := (HH2.out.foot e).1; omega)) (Nat.le_of_eq (size_setRow _ _ _).symm)).mono (by omega), below_setRow K5.out (by omega) _⟩
      ·
        have hno := fall_yes hok hm hlt
        rw [hns] at hno
        have HE9 := Lib.hid hno
        clear hno
        obtain ⟨⟨q0, q1, q2⟩, _⟩ := blk3 Q4.out
        go_wp2_with (first | (refine wpList_store_row rfl 29 _ _ rfl (w2.heap.size) #[.slice NA nn nc, .int .i64 ns] rfl rfl 29 _ M3.out (by kernel_rfl) rfl (by simp [Value.oneCell']) ?_) | (refine wpList_load_row rfl 29 _ rfl (w2.heap.size) rfl 29 _ (0, 0) _ M4.out Tryz.underlying29 rfl (by kernel_rfl) ?_) | (refine wpList_store_row rfl 32 _ _ rfl (w.heap.size + 1) #[.slice NA nn nc, .int .i64 ns, .slice none 0 0] rfl rfl 32 _ R4.out (by kernel_rfl) rfl (by simp [Value.oneCell']) ?_))
        exact row_ret2 (r := w.heap.size + 1) (cs := #[.slice NA nn nc, .int .i64 ns, .slice none 0 0]) rfl rfl rfl (setRow_heap _ _ _ _ _ _ R4.out) Tryz.underlying32 rfl (by kernel_rfl) rfl ⟨(InnH.mk NA nn nc none 0 0 []), by rw [HE9.out.2.2.2, HE9.out.1]; rfl, by rw [HE9.out.2.1, HE9.out.2.2.1]; exact ⟨(NM2.out.heap (fun t e => setRow_other _ _ _ _ (by have := hnl t e; omega))).mono (by omega), heldS_nil _ _, fun t _ e => by rcases e with e | ⟨j, x, hx, _⟩; cases e; simp at hx⟩, below_setRow K4.out (by omega) _⟩

end Go.Proofs.YtioogmeghmeelaaGreat.Tx

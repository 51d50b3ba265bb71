/-
  What Hand of the program answers. Conditions: at most 1048576 numbers in the memory, as many seats, and of each as many words; the library table of powers of ten holds what its text lays in it.
-/
import Derived.Test.YtioogmeghmeelaaGreatDoorInnFacts
import Derived.Test.YtioogmeghmeelaaGreatDoorImpl15b
import Derived.Test.YtioogmeghmeelaaGreatDoorKey0
import Derived.Test.YtioogmeghmeelaaGreatDoorImpl14b
namespace Go.Proofs.YtioogmeghmeelaaGreatDoor.Tx
open Go.RowKit

set_option maxRecDepth 100000 in
set_option maxHeartbeats 32000000 in
theorem Hand_impl (M : Option Addr) (nm cm : Nat) (zs : List Int) (s : Int) (A : Option Addr) (n cap : Nat) (ss : List SeatL) (k : Int) (b : BoxV) (w : World) (h : InnO w w.heap.size M nm A n zs ss) (hMz : M = none → cm = 0) (_ : AllI64 zs) (hnm : nm ≤ 1048576) (hn : n ≤ 1048576) (hl : ∀ q ∈ ss, q.l.length ≤ 1048576) (ht : Tab w) :
    Calls Tryz.prog 9 #[.agg #[.slice M nm cm, .int .i64 s, .slice A n cap], .int .i64 k, b.val] w fun e w' => ∃ i : InnH, e = .returned (.tuple #[i.val (handT zs s ss), .int .i64 (handC zs s ss k b)]) ∧ HeldI w' w.heap.size i (handZ zs s ss) (handL zs s ss k b) ∧ Below w.heap.size w w' := by
  have HTB := Lib.hid ht
  clear ht
  have E := Lib.hid h
  have HL := Lib.hid hl
  have hlen := h.seats.len
  have cO : Hid (∀ (w' : World), InnO w' w'.heap.size M nm A n zs ss → Calls Tryz.prog 22 #[.agg #[.slice M nm cm, .int .i64 s, .slice A n cap]] w' fun e w'' => e = .returned (.bool (innOkB zs s ss)) ∧ Below w'.heap.size w' w'') := fun w' hE => InnOk_impl0 M nm cm zs s A n cap ss w' hE.mem hE.seats hnm hn
  have cC : Hid (∀ (w' : World), InnO w' w'.heap.size M nm A n zs ss → Calls Tryz.prog 23 #[.agg #[.slice M nm cm, .int .i64 s, .slice A n cap]] w' fun e w'' => ∃ i : InnH, e = .returned (i.val s) ∧ i.mn = nm ∧ i.n = n ∧ HeldI w'' w'.heap.size i zs ss ∧ Below w'.heap.size w' w'') := fun w' hE => copiedInn_any M nm cm zs s A n cap ss w' hE hMz hnm hn hl
  obtain ⟨bo, hok⟩ : ∃ b, innOkB zs s ss = b := ⟨_, rfl⟩
  clear h hl
  obtain ⟨⟨xu, xs, xh, xa⟩, xn, xt, xp⟩ := b
  have HV : Hid (BoxV.val ⟨⟨xu, xs, xh, xa⟩, xn, xt, xp⟩ = .agg #[.int .i64 xu, .int .i64 xs, .int .i64 xh, .int .i64 xa, .int .i64 xn, .string xt, .bool xp]) := rfl
  rw [HV.out]
  clear HV
  obtain ⟨W0, hW0⟩ : ∃ W, ((w.alloc (.cells #[.slice M nm cm, .int .i64 s, .slice A n cap] 37)).alloc (.cells #[.int .i64 xu, .int .i64 xs, .int .i64 xh, .int .i64 xa, .int .i64 xn, .string xt, .bool xp] 43)).alloc (.cells #[.slice none 0 0, .int .i64 0, .slice none 0 0] 37) = W := ⟨_, rfl⟩
  have K0 : Hid (Below w.heap.size w W0) := by rw [← hW0]; exact (((Below.refl _ w).alloc (Nat.le_refl _) _).alloc (by simp; try omega) _).alloc (by simp; try omega) _
  have Q0 : Hid (W0.heap[w.heap.size]? = some (.cells #[.slice M nm cm, .int .i64 s, .slice A n cap] 37)) := by rw [← hW0]; exact heap3a w _ _ _
  have X0 : Hid (W0.heap[w.heap.size + 1]? = some (.cells #[.int .i64 xu, .int .i64 xs, .int .i64 xh, .int .i64 xa, .int .i64 xn, .string xt, .bool xp] 43)) := by rw [← hW0]; exact heap3b w _ _ _
  have R0 : Hid (W0.heap[w.heap.size + 1 + 1]? = some (.cells #[.slice none 0 0, .int .i64 0, .slice none 0 0] 37)) := by rw [← hW0]; exact heap3c w _ _ _
  have zW0 : W0.heap.size = w.heap.size + 3 := by rw [← hW0]; simp
  go_enter Tryz.func9, Tryz.ntmps9
  go_wp2_with (refine wpList_load_row rfl 37 _ rfl (w.heap.size) rfl 37 _ (0, 0) _ Q0.out Tryz.underlying37 rfl (by kernel_rfl) ?_)
  clear hW0
  have cz := cO.out _ ((E.out.below K0.out).mono K0.out.size)
  rw [hok] at cz
  have hw1 : True := trivial
  refine cz.mono ?_
  rintro e w1 ⟨rfl, hb⟩
  have hs1 := hb.size
  clear cz
  have Q1 := Lib.hid (blk_on hb Q0.out)
  have X1 := Lib.hid (blk_on hb X0.out)
  have R1 := Lib.hid (blk_on hb R0.out)
  have K1 := Lib.hid (K0.out.trans (hb.mono K0.out.size))
  clear hb Q0 X0 R0 K0
  cases bo with
  | false =>
    have HE9 := Lib.hid (hand_bad hok k ⟨⟨xu, xs, xh, xa⟩, xn, xt, xp⟩)
    go_wp2_with (refine wpList_store_row rfl 37 _ _ rfl (w.heap.size + 1 + 1) #[.slice none 0 0, .int .i64 0, .slice none 0 0] rfl rfl 37 _ R1.out (by kernel_rfl) rfl (by simp [Value.oneCell']) ?_)
    exact row_ret2 (r := w.heap.size + 1 + 1) (cs := #[.slice none 0 0, .int .i64 0, .slice none 0 0]) rfl rfl rfl (setRow_heap _ _ _ _ _ _ R1.out) Tryz.underlying37 rfl (by kernel_rfl) rfl ⟨(InnH.mk none 0 0 none 0 0 []), by rw [HE9.out.2.1, HE9.out.2.2.2]; rfl, by rw [HE9.out.1, HE9.out.2.2.1]; exact ⟨ownN_nil _ _, heldS_nil _ _, fun k e => by cases e⟩, below_setRow K1.out (by omega) _⟩
  | true =>
    go_wp2_with (refine wpList_load_row rfl 37 _ rfl (w.heap.size) rfl 37 _ (0, 0) _ Q1.out Tryz.underlying37 rfl (by kernel_rfl) ?_)
    refine (cC.out _ ((E.out.below K1.out).mono K1.out.size)).mono ?_
    rintro e wc ⟨⟨iM, im, ic, iA, il, iC, ih⟩, rfl, hm1, hm2, HI, hb⟩
    obtain rfl : nm = im := hm1.symm
    obtain rfl : n = il := hm2.symm
    have hzc : W0.heap.size ≤ w1.heap.size := by omega
    have HH := Lib.hid (HI.mono hzc)
    have hzd := hb.size
    clear HI
    have Q2 := Lib.hid (blk_on hb Q1.out)
    have X2 := Lib.hid (blk_on hb X1.out)
    have R2 := Lib.hid (blk_on hb R1.out)
    have K2 := Lib.hid (K1.out.trans (hb.mono K1.out.size))
    clear hb Q1 X1 R1 K1
    obtain ⟨V3, hV3⟩ : ∃ V, wc.alloc (.cells #[.slice none 0 0, .int .i64 0, .slice none 0 0] 37) = V := ⟨_, rfl⟩
    have ltV3Q : w.heap.size < wc.heap.size := blk_in Q2.out
    have ltV3X : w.heap.size + 1 < wc.heap.size := blk_in X2.out
    have ltV3R : w.heap.size + 1 + 1 < wc.heap.size := blk_in R2.out
    have Q3 : Hid (V3.heap[w.heap.size]? = some (.cells #[.slice M nm cm, .int .i64 s, .slice A n cap] 37)) := by rw [← hV3]; exact alloc_blk Q2.out
    have X3 : Hid (V3.heap[w.heap.size + 1]? = some (.cells #[.int .i64 xu, .int .i64 xs, .int .i64 xh, .int .i64 xa, .int .i64 xn, .string xt, .bool xp] 43)) := by rw [← hV3]; exact alloc_blk X2.out
    have R3 : Hid (V3.heap[w.heap.size + 1 + 1]? = some (.cells #[.slice none 0 0, .int .i64 0, .slice none 0 0] 37)) := by rw [← hV3]; exact alloc_blk R2.out
    have hb : Below wc.heap.size wc V3 := by rw [← hV3]; exact (Below.refl _ wc).alloc (Nat.le_refl _) _
    have K3 := Lib.hid (K2.out.trans (hb.mono K2.out.size))
    have O3 : Hid (V3.heap[wc.heap.size]? = some (.cells #[.slice none 0 0, .int .i64 0, .slice none 0 0] 37)) := by rw [← hV3]; exact heap1 wc _
    have lbV3 : w.heap.size ≤ wc.heap.size := K2.out.size
    clear hb Q2 X2 R2 K2
    have Q4 : Hid ((V3.setRow wc.heap.size #[.slice iM nm ic, .int .i64 s, .slice iA n iC]).heap[w.heap.size]? = some (.cells #[.slice M nm cm, .int .i64 s, .slice A n cap] 37)) := (setRow_other _ _ _ _ (by omega)).trans Q3.out
    have X4 : Hid ((V3.setRow wc.heap.size #[.slice iM nm ic, .int .i64 s, .slice iA n iC]).heap[w.heap.size + 1]? = some (.cells #[.int .i64 xu, .int .i64 xs, .int .i64 xh, .int .i64 xa, .int .i64 xn, .string xt, .bool xp] 43)) := (setRow_other _ _ _ _ (by omega)).trans X3.out
    have R4 : Hid ((V3.setRow wc.heap.size #[.slice iM nm ic, .int .i64 s, .slice iA n iC]).heap[w.heap.size + 1 + 1]? = some (.cells #[.slice none 0 0, .int .i64 0, .slice none 0 0] 37)) := (setRow_other _ _ _ _ (by omega)).trans R3.out
    have O4 : Hid ((V3.setRow wc.heap.size #[.slice iM nm ic, .int .i64 s, .slice iA n iC]).heap[wc.heap.size]? = some (.cells #[.slice iM nm ic, .int .i64 s, .slice iA n iC] 37)) := setRow_heap _ _ _ _ _ _ O3.out
    have K4 : Hid (Below w.heap.size w (V3.setRow wc.heap.size #[.slice iM nm ic, .int .i64 s, .slice iA n iC])) := below_setRow K3.out (by omega) _
    have zV : V3.heap.size = wc.heap.size + 1 := by rw [← hV3]; simp
    have zS := size_setRow V3 wc.heap.size #[.slice iM nm ic, .int .i64 s, .slice iA n iC]
    have HF0 : ∀ t, FootI (InnH.mk iM nm ic iA n iC ih) t → W0.heap.size ≤ t ∧ t < wc.heap.size := fun t e => HH.out.foot e
    have HV : HeldI V3 W0.heap.size (InnH.mk iM nm ic iA n iC ih) zs ss := by rw [← hV3]; exact HH.out.on ((Below.refl _ _).alloc (Nat.le_refl _) _)
    have H4 : Hid (HeldI (V3.setRow wc.heap.size #[.slice iM nm ic, .int .i64 s, .slice iA n iC]) W0.heap.size (InnH.mk iM nm ic iA n iC ih) zs ss) := HV.heap (fun t e => setRow_other _ _ _ _ (by have := HF0 t e; omega)) (Nat.le_of_eq (size_setRow _ _ _).symm)
    clear HH HV
    go_upto_region 4 with (refine wpList_store_row rfl 37 _ _ rfl (wc.heap.size) #[.slice iM nm ic, .int .i64 s, .slice iA n iC] rfl rfl 37 _ O3.out (by kernel_rfl) rfl (by simp [Value.oneCell']) ?_)
    clear hV3 Q3 X3 R3 O3 K3
    generalize V3.setRow wc.heap.size #[.slice iM nm ic, .int .i64 s, .slice iA n iC] = S4 at Q4 X4 R4 O4 K4 H4 zS ⊢
    obtain ⟨og, hog⟩ : ∃ x, wc.heap.size = x := ⟨_, rfl⟩
    rw [hog] at O4 HF0 zV hzd ⊢
    have hogl : og < S4.heap.size := by omega
    have hog2 : w.heap.size + 3 ≤ og := by omega
    have hogl2 := blk_in O4.out
    clear zS zV hog
    by_cases hk0 : k < 0
    ·
      have hin : ¬ (0 ≤ k ∧ k ≤ (ss.length : Int) - 1) := fun h => by
        rw [hlen] at h
        omega
      have HE9 := Lib.hid (hand_none hok hin ⟨⟨xu, xs, xh, xa⟩, xn, xt, xp⟩)
      have HH := H4
      obtain ⟨⟨q0, q1, q2⟩, _⟩ := blk3 Q4.out
      go_wp2_with (first | (refine wpList_load_row rfl 37 _ rfl (og) rfl 37 _ (0, 0) _ O4.out Tryz.underlying37 rfl (by kernel_rfl) ?_) | (refine wpList_store_row rfl 37 _ _ rfl (w.heap.size + 1 + 1) #[.slice iM nm ic, .int .i64 s, .slice iA n iC] rfl rfl 37 _ R4.out (by kernel_rfl) rfl (by simp [Value.oneCell']) ?_))
      exact row_ret2 (r := w.heap.size + 1 + 1) (cs := #[.slice iM nm ic, .int .i64 s, .slice iA n iC]) rfl rfl rfl (setRow_heap _ _ _ _ _ _ R4.out) Tryz.underlying37 rfl (by kernel_rfl) rfl ⟨(InnH.mk iM nm ic iA n iC ih), by rw [HE9.out.2.1, HE9.out.2.2.2]; rfl, by rw [HE9.out.1, HE9.out.2.2.1]; exact (HH.out.heap (fun t e => setRow_other _ _ _ _ (by have := HF0 t e; omega)) (Nat.le_of_eq (size_setRow _ _ _).symm)).mono (by omega), below_setRow K4.out (by omega) _⟩
    ·
      by_cases hkn : k ≥ (n : Int)
      ·
        have hin : ¬ (0 ≤ k ∧ k ≤ (ss.length : Int) - 1) := fun h => by
          rw [hlen] at h
          omega
        have HE9 := Lib.hid (hand_none hok hin ⟨⟨xu, xs, xh, xa⟩, xn, xt, xp⟩)
        have HH := H4
        obtain ⟨⟨q0, q1, q2⟩, _⟩ := blk3 Q4.out
        go_wp2_with (first | (refine wpList_load_row rfl 37 _ rfl (og) rfl 37 _ (0, 0) _ O4.out Tryz.underlying37 rfl (by kernel_rfl) ?_) | (refine wpList_store_row rfl 37 _ _ rfl (w.heap.size + 1 + 1) #[.slice iM nm ic, .int .i64 s, .slice iA n iC] rfl rfl 37 _ R4.out (by kernel_rfl) rfl (by simp [Value.oneCell']) ?_))
        exact row_ret2 (r := w.heap.size + 1 + 1) (cs := #[.slice iM nm ic, .int .i64 s, .slice iA n iC]) rfl rfl rfl (setRow_heap _ _ _ _ _ _ R4.out) Tryz.underlying37 rfl (by kernel_rfl) rfl ⟨(InnH.mk iM nm ic iA n iC ih), by rw [HE9.out.2.1, HE9.out.2.2.2]; rfl, by rw [HE9.out.1, HE9.out.2.2.1]; exact (HH.out.heap (fun t e => setRow_other _ _ _ _ (by have := HF0 t e; omega)) (Nat.le_of_eq (size_setRow _ _ _).symm)).mono (by omega), below_setRow K4.out (by omega) _⟩
      ·
        obtain ⟨j, rfl⟩ := Int.eq_ofNat_of_zero_le (by omega : 0 ≤ k)
        have hjn : j < n := by omega
        obtain ⟨b, off, ⟨⟨st, sh, sd, sp, ⟨⟨eu, es, eh, ea⟩, en⟩, ⟨⟨fu, fs, fh, fa⟩, fn⟩⟩, pA, pn, pc⟩, q, rfl, hb, hq, e1, g1, E1, xz⟩ := E.out.seats.at hjn
        have he9 := hand_some hok hq ⟨⟨xu, xs, xh, xa⟩, xn, xt, xp⟩
        rw [heardSeat] at he9
        have hxl : q.l.length = pn := E1.1
        have hql : q.l.length ≤ 1048576 := HL.out q (List.mem_of_getElem? hq)
        have e2 : ⟨st, sh, sd, sp, ⟨⟨eu, es, eh, ea⟩, en⟩, ⟨⟨fu, fs, fh, fa⟩, fn⟩⟩ = q.s := e1
        have HX := Lib.hid e2
        have HQ2 := Lib.hid hq
        have HE := Lib.hid E1
        obtain ⟨ol, hol⟩ : ∃ o, hearL q.s q.l ⟨⟨xu, xs, xh, xa⟩, xn, xt, xp⟩ = o := ⟨_, rfl⟩
        obtain ⟨⟨rst, rsh, rsd, rsp, ⟨⟨reu, res, reh, rea⟩, ren⟩, ⟨⟨rfu, rfs, rfh, rfa⟩, rfn⟩⟩, hr⟩ : ∃ o, hearS q.s q.l.length ⟨⟨xu, xs, xh, xa⟩, xn, xt, xp⟩ = o := ⟨_, rfl⟩
        obtain ⟨y, hy⟩ : ∃ o, hearC q.s q.l.length ⟨⟨xu, xs, xh, xa⟩, xn, xt, xp⟩ = o := ⟨_, rfl⟩
        rw [hol, hr, hy] at he9
        have HE9 := Lib.hid he9
        clear he9
        have cH : Hid (∀ (w' : World), EltsO w' w'.heap.size pA pn q.l → Tab w' → Calls Tryz.prog 24 #[.agg #[.int .i64 st, .int .i64 sh, .int .i64 sd, .int .i64 sp, .int .i64 eu, .int .i64 es, .int .i64 eh, .int .i64 ea, .int .i64 en, .int .i64 fu, .int .i64 fs, .int .i64 fh, .int .i64 fa, .int .i64 fn, .slice pA pn pc], .agg #[.int .i64 xu, .int .i64 xs, .int .i64 xh, .int .i64 xa, .int .i64 xn, .string xt, .bool xp]] w' fun e w'' => ∃ (B : Option Addr) (c : Nat), e = .returned (.tuple #[.agg #[.int .i64 rst, .int .i64 rsh, .int .i64 rsd, .int .i64 rsp, .int .i64 reu, .int .i64 res, .int .i64 reh, .int .i64 rea, .int .i64 ren, .int .i64 rfu, .int .i64 rfs, .int .i64 rfh, .int .i64 rfa, .int .i64 rfn, .slice B ol.length c], .int .i64 y]) ∧ OutE w'' w'.heap.size 82 B ol.length c ol ∧ Below w'.heap.size w' w'') := fun w' hE hT => by
          have h1 := Hears_impl ⟨st, sh, sd, sp, ⟨⟨eu, es, eh, ea⟩, en⟩, ⟨⟨fu, fs, fh, fa⟩, fn⟩⟩ pA pn pc q.l ⟨⟨xu, xs, xh, xa⟩, xn, xt, xp⟩ w' hE xz (by omega) hT
          rw [e2, ← hxl, hr, hy, hol, ← e2, hxl] at h1
          exact h1.mono fun e w'' ⟨B, m, c, he, ho, hb⟩ => by
            have hm := ho.out.len
            subst hm
            exact ⟨B, c, he, ho.out, hb⟩
        clear hol hr hy e1 E1 hq e2
        have hj0 : ¬ (j : Int) < 0 := by omega
        have hj1 : (0 : Int) ≤ (j : Int) := by omega
        have hjn' : (j : Int) < (n : Int) := by omega
        have hjn2 : ¬ (j : Int) ≥ (n : Int) := by omega
        obtain ⟨⟨q0, q1, q2⟩, _⟩ := blk3 Q4.out
        have HG : Hid (∀ x : In (plainEnv S4 []), _) := fun x => seat_at (g1.heap ((x.hc.block b (by have := K4.out.size; omega) (by simp)).trans (K4.out.block b hb)))
        clear g1 hk0 hkn
        go_wp2
        clear q0 q1 q2
        refine wp_region_own (W := S4) [] (fun _ => True) stays_true trivial [0, 0, 0, 0, 0, 0, 1, 0, 0, 0, 2, 3, 0] (by kernel_rfl) (by kernel_rfl) (by kernel_rfl) ?_
        have fQ : ∀ q : In (plainEnv S4 []), _ := fun q => (blk3 (q.block Q4.out (by simp))).1
        have rX : Hid (∀ q : In (plainEnv S4 []), q.w.heap[w.heap.size + 1]? = some (.cells #[.int .i64 xu, .int .i64 xs, .int .i64 xh, .int .i64 xa, .int .i64 xn, .string xt, .bool xp] 43)) := fun q => q.block X4.out (by simp)
        have fg := HG.out
        refine wpO_quiet 5 rfl (by kernel_rfl) ?_
        simp only [List.take, List.drop]
        repeat (go_big_quiet_step (fail))
        refine wpQuiet_nil ?_
        refine wpO_load_row rfl 43 _ rfl (w.heap.size + 1) rfl 43 _ (0, 0) _ rX.out Tryz.underlying43 rfl (by kernel_rfl) ?_
        simp only [Act.put, List.setIfInBounds_toArray, List.set_cons_succ, List.set_cons_zero]
        refine wpO_callx (f := 24) (args := #[.agg #[.int .i64 st, .int .i64 sh, .int .i64 sd, .int .i64 sp, .int .i64 eu, .int .i64 es, .int .i64 eh, .int .i64 ea, .int .i64 en, .int .i64 fu, .int .i64 fs, .int .i64 fh, .int .i64 fa, .int .i64 fn, .slice pA pn pc], .agg #[.int .i64 xu, .int .i64 xs, .int .i64 xh, .int .i64 xa, .int .i64 xn, .string xt, .bool xp]]) (α := Option Addr × Nat) (fun z => .tuple #[.agg #[.int .i64 rst, .int .i64 rsh, .int .i64 rsd, .int .i64 rsp, .int .i64 reu, .int .i64 res, .int .i64 reh, .int .i64 rea, .int .i64 ren, .int .i64 rfu, .int .i64 rfs, .int .i64 rfh, .int .i64 rfa, .int .i64 rfn, .slice z.1 ol.length z.2], .int .i64 y]) (fun z => (blkA z.1).toList) (fun z w' => OutE w' S4.heap.size 82 z.1 ol.length z.2 ol) rfl (fun w' => by simp [go_sem]) (fun z w1 w2 hw h b => h.on b) (fun G => ⟨(none, 0), fun k hk => by cases hk⟩) (fun w' hw hF => ?_) (fun z hz => ?_)
        · have kb := kept_below hw
          exact (cH.out w' ((HE.out.below (K4.out.trans (kb.mono K4.out.size))).mono (Nat.le_trans K4.out.size kb.size)) (HTB.out.on (K4.out.trans (kb.mono K4.out.size)))).mono fun e w'' ⟨B, c, he, m, b1⟩ => ⟨(B, c), he, m.mono kb.size, b1, fun k hk => m.lt (by simpa using hk)⟩
        obtain ⟨B, bc⟩ := z
        dsimp only
        simp only [Act.put, List.setIfInBounds_toArray, List.set_cons_succ, List.set_cons_zero]
        refine wpO_quiet 3 rfl (by kernel_rfl) ?_
        simp only [List.take, List.drop]
        repeat (go_big_quiet_step (fail))
        refine wpQuiet_nil ?_
        refine wpO_alloc (.cells #[.int .i64 0, .int .i64 0, .int .i64 0, .int .i64 0, .int .i64 0, .int .i64 0, .int .i64 0, .int .i64 0, .int .i64 0, .int .i64 0, .int .i64 0, .int .i64 0, .int .i64 0, .int .i64 0, .slice none 0 0] 57) rfl (fun w' => by simp [go_sem]) fun gS mg hng => ?_
        have hgS : S4.heap.size ≤ gS := mg
        have hneS : ∀ k, blkA B = some k → k ≠ gS := fun k e e2 => hng (by subst e2; simp [e])
        simp only [Act.put, List.setIfInBounds_toArray, List.set_cons_succ, List.set_cons_zero]
        refine wpO_store (g := gS) (t := 57) (old := #[.int .i64 0, .int .i64 0, .int .i64 0, .int .i64 0, .int .i64 0, .int .i64 0, .int .i64 0, .int .i64 0, .int .i64 0, .int .i64 0, .int .i64 0, .int .i64 0, .int .i64 0, .int .i64 0, .slice none 0 0]) (fun w' => OutE w' S4.heap.size 82 B ol.length bc ol) #[.int .i64 rst, .int .i64 rsh, .int .i64 rsd, .int .i64 rsp, .int .i64 reu, .int .i64 res, .int .i64 reh, .int .i64 rea, .int .i64 ren, .int .i64 rfu, .int .i64 rfs, .int .i64 rfh, .int .i64 rfa, .int .i64 rfn, .slice B ol.length bc] rfl rfl rfl rfl (Env.own _ mg) (by kernel_rfl) rfl rfl (fun w' h => ⟨h.1.2, h.2⟩) (fun w1 w2 hw h b => h.on b) (fun w1 w2 hw h => h.heap (fun k e => hw k (h.lt e).2 (hneS k e))) ?_
        simp only [Act.put]
        refine wpO_quiet 1 rfl (by kernel_rfl) ?_
        simp only [List.take, List.drop]
        repeat (go_big_quiet_step (fail))
        refine wpQuiet_nil ?_
        refine wpO_nil ?_
        rintro w5 hb' ⟨hM, hG⟩
        have hb := kept_below hb'
        have ltS := blk_in hG
        have Q5 := Lib.hid (blk_on hb Q4.out)
        have X5 := Lib.hid (blk_on hb X4.out)
        have R5 := Lib.hid (blk_on hb R4.out)
        have O5 := Lib.hid (blk_on hb O4.out)
        have H5 := Lib.hid (H4.out.on hb)
        have K5 := Lib.hid (K4.out.trans (hb.mono K4.out.size))
        clear hb hb' fg HG fQ rX Q4 X4 R4 O4 K4 H4
        have S5 := Lib.hid hG
        have LG := Lib.hid hM
        clear hG hM
        obtain ⟨ig, rfl, hig, hT⟩ : ∃ g, iA = some ⟨g, 0, none⟩ ∧ FootI (InnH.mk iM nm ic iA n iC ih) g ∧ There w5 g 0 (n * 15) := by
          rcases H5.out.seats.front with ⟨_, e⟩ | ⟨g, e, h1, h2, h3, h4⟩
          · exact absurd (show n = 0 from e) (by omega)
          · have e' : iA = some ⟨g, 0, none⟩ := e
            exact ⟨g, e', .inr (.inl (by show blkA iA = _; rw [e']; rfl)), h3⟩
        have HT := Lib.hid hT
        have hig2 := HF0 ig hig
        clear hT hig
        have HPA : Hid (HeldI (setAll w5 ig (j * 15) (Cells.cells (SeatH.mk ⟨rst, rsh, rsd, rsp, ⟨⟨reu, res, reh, rea⟩, ren⟩, ⟨⟨rfu, rfs, rfh, rfa⟩, rfn⟩⟩ B ol.length bc))) W0.heap.size (InnH.mk iM nm ic (some ⟨ig, 0, none⟩) n iC (ih.set j (SeatH.mk ⟨rst, rsh, rsd, rsp, ⟨⟨reu, res, reh, rea⟩, ren⟩, ⟨⟨rfu, rfs, rfh, rfa⟩, rfn⟩⟩ B ol.length bc))) zs (ss.set j ⟨⟨rst, rsh, rsd, rsp, ⟨⟨reu, res, reh, rea⟩, ren⟩, ⟨⟨rfu, rfs, rfh, rfa⟩, rfn⟩⟩, ol⟩)) := H5.out.put hjn (SeatH.mk ⟨rst, rsh, rsd, rsp, ⟨⟨reu, res, reh, rea⟩, ren⟩, ⟨⟨rfu, rfs, rfh, rfa⟩, rfn⟩⟩ B ol.length bc) ⟨⟨rst, rsh, rsd, rsp, ⟨⟨reu, res, reh, rea⟩, ren⟩, ⟨⟨rfu, rfs, rfh, rfa⟩, rfn⟩⟩, ol⟩ rfl LG.out (fun t e => by have := HF0 t e; omega) (by omega)
        obtain ⟨S9, qS9⟩ : ∃ W, setAll w5 ig (j * 15) [.int .i64 rst, .int .i64 rsh, .int .i64 rsd, .int .i64 rsp, .int .i64 reu, .int .i64 res, .int .i64 reh, .int .i64 rea, .int .i64 ren, .int .i64 rfu, .int .i64 rfs, .int .i64 rfh, .int .i64 rfa, .int .i64 rfn, .slice B ol.length bc] = W := ⟨_, rfl⟩
        have hS9 : (((((((((((((((w5.setCell ⟨ig, j * 15, none⟩ (.int .i64 rst)).setCell ⟨ig, j * 15 + 1, none⟩ (.int .i64 rsh)).setCell ⟨ig, j * 15 + 2, none⟩ (.int .i64 rsd)).setCell ⟨ig, j * 15 + 3, none⟩ (.int .i64 rsp)).setCell ⟨ig, j * 15 + 4, none⟩ (.int .i64 reu)).setCell ⟨ig, j * 15 + 5, none⟩ (.int .i64 res)).setCell ⟨ig, j * 15 + 6, none⟩ (.int .i64 reh)).setCell ⟨ig, j * 15 + 7, none⟩ (.int .i64 rea)).setCell ⟨ig, j * 15 + 8, none⟩ (.int .i64 ren)).setCell ⟨ig, j * 15 + 9, none⟩ (.int .i64 rfu)).setCell ⟨ig, j * 15 + 10, none⟩ (.int .i64 rfs)).setCell ⟨ig, j * 15 + 11, none⟩ (.int .i64 rfh)).setCell ⟨ig, j * 15 + 12, none⟩ (.int .i64 rfa)).setCell ⟨ig, j * 15 + 13, none⟩ (.int .i64 rfn)).setCell ⟨ig, j * 15 + 14, none⟩ (.slice B ol.length bc)) = S9 := qS9
        have Q6 : Hid (S9.heap[w.heap.size]? = some (.cells #[.slice M nm cm, .int .i64 s, .slice (some ⟨b, off, none⟩) n cap] 37)) := by rw [← qS9]; exact setAll_away (by omega) _ _ Q5.out
        have X6 : Hid (S9.heap[w.heap.size + 1]? = some (.cells #[.int .i64 xu, .int .i64 xs, .int .i64 xh, .int .i64 xa, .int .i64 xn, .string xt, .bool xp] 43)) := by rw [← qS9]; exact setAll_away (by omega) _ _ X5.out
        have R6 : Hid (S9.heap[w.heap.size + 1 + 1]? = some (.cells #[.slice none 0 0, .int .i64 0, .slice none 0 0] 37)) := by rw [← qS9]; exact setAll_away (by omega) _ _ R5.out
        have O6 : Hid (S9.heap[og]? = some (.cells #[.slice iM nm ic, .int .i64 s, .slice (some ⟨ig, 0, none⟩) n iC] 37)) := by rw [← qS9]; exact setAll_away (by omega) _ _ O5.out
        have S6 : Hid (S9.heap[gS]? = some (.cells #[.int .i64 rst, .int .i64 rsh, .int .i64 rsd, .int .i64 rsp, .int .i64 reu, .int .i64 res, .int .i64 reh, .int .i64 rea, .int .i64 ren, .int .i64 rfu, .int .i64 rfs, .int .i64 rfh, .int .i64 rfa, .int .i64 rfn, .slice B ol.length bc] 57)) := by rw [← qS9]; exact setAll_away (by omega) _ _ S5.out
        have K6 : Hid (Below w.heap.size w S9) := by rw [← qS9]; exact setAll_below (g := ig) (by omega) [.int .i64 rst, .int .i64 rsh, .int .i64 rsd, .int .i64 rsp, .int .i64 reu, .int .i64 res, .int .i64 reh, .int .i64 rea, .int .i64 ren, .int .i64 rfu, .int .i64 rfs, .int .i64 rfh, .int .i64 rfa, .int .i64 rfn, .slice B ol.length bc] (j * 15) K5.out
        have HP : Hid (HeldI S9 W0.heap.size (InnH.mk iM nm ic (some ⟨ig, 0, none⟩) n iC (ih.set j (SeatH.mk ⟨rst, rsh, rsd, rsp, ⟨⟨reu, res, reh, rea⟩, ren⟩, ⟨⟨rfu, rfs, rfh, rfa⟩, rfn⟩⟩ B ol.length bc))) zs (ss.set j ⟨⟨rst, rsh, rsd, rsp, ⟨⟨reu, res, reh, rea⟩, ren⟩, ⟨⟨rfu, rfs, rfh, rfa⟩, rfn⟩⟩, ol⟩)) := by rw [← qS9]; exact HPA.out
        clear HPA qS9
        obtain ⟨⟨v0, c0⟩, d0⟩ := HT.out (j * 15) (by omega) (by omega)
        obtain ⟨⟨v1, c1⟩, d1⟩ := HT.out (j * 15 + 1) (by omega) (by omega)
        obtain ⟨⟨v2, c2⟩, d2⟩ := HT.out (j * 15 + 2) (by omega) (by omega)
        obtain ⟨⟨v3, c3⟩, d3⟩ := HT.out (j * 15 + 3) (by omega) (by omega)
        obtain ⟨⟨v4, c4⟩, d4⟩ := HT.out (j * 15 + 4) (by omega) (by omega)
        obtain ⟨⟨v5, c5⟩, d5⟩ := HT.out (j * 15 + 5) (by omega) (by omega)
        obtain ⟨⟨v6, c6⟩, d6⟩ := HT.out (j * 15 + 6) (by omega) (by omega)
        obtain ⟨⟨v7, c7⟩, d7⟩ := HT.out (j * 15 + 7) (by omega) (by omega)
        obtain ⟨⟨v8, c8⟩, d8⟩ := HT.out (j * 15 + 8) (by omega) (by omega)
        obtain ⟨⟨v9, c9⟩, d9⟩ := HT.out (j * 15 + 9) (by omega) (by omega)
        obtain ⟨⟨v10, c10⟩, d10⟩ := HT.out (j * 15 + 10) (by omega) (by omega)
        obtain ⟨⟨v11, c11⟩, d11⟩ := HT.out (j * 15 + 11) (by omega) (by omega)
        obtain ⟨⟨v12, c12⟩, d12⟩ := HT.out (j * 15 + 12) (by omega) (by omega)
        obtain ⟨⟨v13, c13⟩, d13⟩ := HT.out (j * 15 + 13) (by omega) (by omega)
        obtain ⟨⟨v14, c14⟩, d14⟩ := HT.out (j * 15 + 14) (by omega) (by omega)
        obtain ⟨⟨o0, o1, o2⟩, _⟩ := blk3 O5.out
        go_upto_region 8 with (refine wpList_load_row rfl 57 _ rfl gS rfl 57 _ (0, 0) _ S5.out Tryz.underlying57 rfl (by kernel_rfl) ?_)
        try rw [hS9]
        clear hS9 o0 o1 o2 c0 d0 c1 d1 c2 d2 c3 d3 c4 d4 c5 d5 c6 d6 c7 d7 c8 d8 c9 d9 c10 d10 c11 d11 c12 d12 c13 d13 c14 d14 Q5 X5 R5 O5 S5 K5 H5
        go_wp2_with (first | (refine wpList_load_row rfl 37 _ rfl (og) rfl 37 _ (0, 0) _ O6.out Tryz.underlying37 rfl (by kernel_rfl) ?_) | (refine wpList_store_row rfl 37 _ _ rfl (w.heap.size + 1 + 1) #[.slice iM nm ic, .int .i64 s, .slice (some ⟨ig, 0, none⟩) n iC] rfl rfl 37 _ R6.out (by kernel_rfl) rfl (by simp [Value.oneCell']) ?_))
        exact row_ret2 (r := w.heap.size + 1 + 1) (cs := #[.slice iM nm ic, .int .i64 s, .slice (some ⟨ig, 0, none⟩) n iC]) rfl rfl rfl (setRow_heap _ _ _ _ _ _ R6.out) Tryz.underlying37 rfl (by kernel_rfl) rfl ⟨(InnH.mk iM nm ic (some ⟨ig, 0, none⟩) n iC (ih.set j (SeatH.mk ⟨rst, rsh, rsd, rsp, ⟨⟨reu, res, reh, rea⟩, ren⟩, ⟨⟨rfu, rfs, rfh, rfa⟩, rfn⟩⟩ B ol.length bc))), by rw [HE9.out.2.1, HE9.out.2.2.2]; rfl, by rw [HE9.out.1, HE9.out.2.2.1]; exact (HP.out.heap (fun t e => setRow_other _ _ _ _ (by have := (HP.out.foot e).1; omega)) (Nat.le_of_eq (size_setRow _ _ _).symm)).mono (by omega), below_setRow K6.out (by omega) _⟩

end Go.Proofs.YtioogmeghmeelaaGreatDoor.Tx

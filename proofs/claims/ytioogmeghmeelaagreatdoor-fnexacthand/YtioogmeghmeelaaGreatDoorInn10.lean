/-
  What l15Copy of the model answers: an inn like it, in memory of the call's own. Conditions: at most 1048576 numbers in the memory, as many seats, and of each as many words.
  What Hand and Fallen of the model answer. Conditions: at most 1048576 numbers in the memory, as many seats, and of each as many words.
-/
import Derived.Test.YtioogmeghmeelaaGreatDoorRegionS
import Derived.Test.YtioogmeghmeelaaGreatDoorRegionR
import Derived.Test.YtioogmeghmeelaaGreatDoorInn2
import Derived.Test.YtioogmeghmeelaaGreatDoorInn8
import Derived.Test.YtioogmeghmeelaaGreatDoorMem4
import Derived.Test.YtioogmeghmeelaaGreatDoorInnFacts
import Derived.Test.YtioogmeghmeelaaGreatDoorKey0
namespace Go.Proofs.YtioogmeghmeelaaGreatDoor.Tx
open Go.RowKit

theorem infoSeatE : ∃ (i : TypeInfo) (by' : Nat), Tryz.prog.info? 57 = some i ∧ i.zero = some (SeatV.val .zero none 0 0) ∧ i.size = 15 ∧ i.bytes = by' ∧ by' ≤ 400 := by
  obtain ⟨i, hi⟩ := Option.isSome_iff_exists.1 (show (Tryz.prog.info? 57).isSome = true by kernel_rfl)
  have h1 : (Tryz.prog.info? 57).map (fun i => (i.zero, i.size)) = some (some (SeatV.val .zero none 0 0), 15) := by kernel_rfl
  have h2 : ((Tryz.prog.info? 57).map (fun i => decide (i.bytes ≤ 400))) = some true := by kernel_rfl
  rw [hi] at h1 h2
  simp only [Option.map_some, Option.some.injEq, Prod.mk.injEq, decide_eq_true_eq] at h1 h2
  exact ⟨i, i.bytes, hi, h1.1, h1.2, rfl, h2⟩
set_option maxRecDepth 100000 in
set_option maxHeartbeats 32000000 in
theorem l15Copy_any (M : Option Addr) (nm cm : Nat) (zs : List Int) (s : Int) (A : Option Addr) (n cap : Nat) (ss : List SeatL) (w : World) (h : InnO w w.heap.size M nm A n zs ss) (hMz : M = none → cm = 0) (hnm : nm ≤ 1048576) (hn : n ≤ 1048576) (hl : ∀ q ∈ ss, q.l.length ≤ 1048576) :
    Calls Tryz.prog 16 #[.agg #[.slice M nm cm, .int .i64 s, .slice A n cap]] w fun e w' => ∃ i : InnH, e = .returned (i.val s) ∧ i.mn = nm ∧ i.n = n ∧ HeldI w' w.heap.size i zs ss ∧ Below w.heap.size w w' := by
  obtain ⟨i0, by0, hi, hz0, hz1, hz2, hby⟩ := infoSeatE
  have E := Lib.hid h
  have HL := Lib.hid hl
  have hlen := h.seats.len
  clear h hl
  obtain ⟨W0, hW0⟩ : ∃ W, (w.alloc (.cells #[.slice M nm cm, .int .i64 s, .slice A n cap] 37)).alloc (.cells #[.slice none 0 0, .int .i64 0, .slice none 0 0] 37) = W := ⟨_, rfl⟩
  have K0 : Hid (Below w.heap.size w W0) := by rw [← hW0]; exact ((Below.refl _ w).alloc (Nat.le_refl _) _).alloc (by simp; try omega) _
  have Q0 : Hid (W0.heap[w.heap.size]? = some (.cells #[.slice M nm cm, .int .i64 s, .slice A n cap] 37)) := by rw [← hW0]; exact heap2a w _ _
  have R0 : Hid (W0.heap[w.heap.size + 1]? = some (.cells #[.slice none 0 0, .int .i64 0, .slice none 0 0] 37)) := by rw [← hW0]; exact heap2b w _ _
  have zW0 : W0.heap.size = w.heap.size + 2 := by rw [← hW0]; simp
  have E0 := Lib.hid (E.out.below K0.out)
  go_enter Tryz.func16, Tryz.ntmps16
  obtain ⟨⟨a0, a1, a2⟩, _⟩ := blk3 Q0.out
  go_wp2_with fail
  clear a0 a1 a2
  clear hW0
  refine (l8Copy_any M nm cm zs s _ (E0.out.mem.mono K0.out.size) hMz hnm).mono ?_
  rintro e w1 ⟨gm, cb, rfl, hM, hb⟩
  have MM := Lib.hid hM
  have lm := hM.lt (g := gm) rfl
  clear hM
  have Q1 := Lib.hid (blk_on hb Q0.out)
  have R1 := Lib.hid (blk_on hb R0.out)
  have K1 := Lib.hid (K0.out.trans (hb.mono K0.out.size))
  clear hb Q0 R0 K0
  obtain ⟨V2, hV2⟩ : ∃ V, w1.alloc (.cells #[.slice none 0 0, .int .i64 0, .slice none 0 0] 37) = V := ⟨_, rfl⟩
  have ltV2Q : w.heap.size < w1.heap.size := blk_in Q1.out
  have ltV2R : w.heap.size + 1 < w1.heap.size := blk_in R1.out
  have Q2 : Hid (V2.heap[w.heap.size]? = some (.cells #[.slice M nm cm, .int .i64 s, .slice A n cap] 37)) := by rw [← hV2]; exact alloc_blk Q1.out
  have R2 : Hid (V2.heap[w.heap.size + 1]? = some (.cells #[.slice none 0 0, .int .i64 0, .slice none 0 0] 37)) := by rw [← hV2]; exact alloc_blk R1.out
  have hb : Below w1.heap.size w1 V2 := by rw [← hV2]; exact (Below.refl _ w1).alloc (Nat.le_refl _) _
  have K2 := Lib.hid (K1.out.trans (hb.mono K1.out.size))
  have O2 : Hid (V2.heap[w1.heap.size]? = some (.cells #[.slice none 0 0, .int .i64 0, .slice none 0 0] 37)) := by rw [← hV2]; exact heap1 w1 _
  have lbV2 : w.heap.size ≤ w1.heap.size := K1.out.size
  clear hb Q1 R1 K1
  have Q3 : Hid ((V2.setRow w1.heap.size #[.slice (some ⟨gm, 0, none⟩) nm cb, .int .i64 s, .slice none 0 0]).heap[w.heap.size]? = some (.cells #[.slice M nm cm, .int .i64 s, .slice A n cap] 37)) := (setRow_other _ _ _ _ (by omega)).trans Q2.out
  have R3 : Hid ((V2.setRow w1.heap.size #[.slice (some ⟨gm, 0, none⟩) nm cb, .int .i64 s, .slice none 0 0]).heap[w.heap.size + 1]? = some (.cells #[.slice none 0 0, .int .i64 0, .slice none 0 0] 37)) := (setRow_other _ _ _ _ (by omega)).trans R2.out
  have O3 : Hid ((V2.setRow w1.heap.size #[.slice (some ⟨gm, 0, none⟩) nm cb, .int .i64 s, .slice none 0 0]).heap[w1.heap.size]? = some (.cells #[.slice (some ⟨gm, 0, none⟩) nm cb, .int .i64 s, .slice none 0 0] 37)) := setRow_heap _ _ _ _ _ _ O2.out
  have K3 : Hid (Below w.heap.size w (V2.setRow w1.heap.size #[.slice (some ⟨gm, 0, none⟩) nm cb, .int .i64 s, .slice none 0 0])) := below_setRow K2.out (by omega) _
  have zV : V2.heap.size = w1.heap.size + 1 := by rw [← hV2]; simp
  have zS := size_setRow V2 w1.heap.size #[.slice (some ⟨gm, 0, none⟩) nm cb, .int .i64 s, .slice none 0 0]
  have M2 : Hid (OwnN (V2.setRow w1.heap.size #[.slice (some ⟨gm, 0, none⟩) nm cb, .int .i64 s, .slice none 0 0]) W0.heap.size zs (some ⟨gm, 0, none⟩) nm cb) := (by have h1 : OwnN V2 W0.heap.size zs (some ⟨gm, 0, none⟩) nm cb := (by rw [← hV2]; exact MM.out.alloc _); exact h1.heap (fun k e => setRow_other _ _ _ _ (by have e1 : gm = k := Option.some.inj e; omega)))
  clear MM
  go_wp2_with (refine wpList_store_row rfl 37 _ _ rfl (w1.heap.size) #[.slice (some ⟨gm, 0, none⟩) nm cb, .int .i64 s, .slice none 0 0] rfl rfl 37 _ O2.out (by kernel_rfl) rfl (by simp [Value.oneCell']) ?_)
  clear hV2 Q2 R2 O2 K2
  generalize V2.setRow w1.heap.size #[.slice (some ⟨gm, 0, none⟩) nm cb, .int .i64 s, .slice none 0 0] = S3 at Q3 R3 O3 K3 zS M2 ⊢
  obtain ⟨og, hog⟩ : ∃ x, w1.heap.size = x := ⟨_, rfl⟩
  have OO := O3
  have QQ := Q3
  have RR := R3
  have KK := K3
  rw [hog] at OO zV lm ⊢
  have zz : S3.heap.size = og + 1 := by omega
  have hog2 : w.heap.size + 2 ≤ og := by omega
  clear hog O3 Q3 R3 K3 zS zV E0
  obtain ⟨L0, hL0⟩ : ∃ x, S3 = x := ⟨_, rfl⟩
  rw [hL0] at OO QQ RR KK M2 zz ⊢
  clear hL0
  go_loopw [4] (fun i wr => ∃ (k : Nat) (A' : Option Addr) (c' : Nat) (hs : List SeatH), k ≤ n ∧ i = .int .i64 k ∧ Hid (wr.heap[og]? = some (.cells #[.slice (some ⟨gm, 0, none⟩) nm cb, .int .i64 s, .slice A' k c'] 37)) ∧ Hid (RowS wr (og + 1) A' k c' hs (ss.take k)) ∧ Hid (Below og L0 wr) ∧ og + 1 ≤ wr.heap.size) (fun i _ => n - (intOf i).toNat)
  case atStart => exact ⟨0, none, 0, [], Nat.zero_le _, rfl, OO.out, by rw [List.take_zero]; exact rowS_nil _ _, Below.refl _ _, by omega⟩
  case round =>
    obtain ⟨k, A', c', hs, hk, rfl, hO, hR, hB, hzr⟩ := hrel
    have Q1 := Lib.hid ((hB.out.block _ (show w.heap.size < og by omega)).trans QQ.out)
    by_cases hlt : k < n
    · obtain ⟨b, off, ⟨⟨st, sh, sd, sp, ⟨⟨eu, es, eh, ea⟩, en⟩, ⟨⟨fu, fs, fh, fa⟩, fn⟩⟩, xA, xn, xc⟩, q, rfl, hb, hq, e1, g1, E1, xz⟩ := E.out.seats.at hlt
      have KW : Below w.heap.size w wr := KK.out.trans (hB.out.mono (by omega))
      have hql := HL.out q (List.mem_of_getElem? hq)
      have hxl : q.l.length = xn := E1.1
      have e2 : ⟨st, sh, sd, sp, ⟨⟨eu, es, eh, ea⟩, en⟩, ⟨⟨fu, fs, fh, fa⟩, fn⟩⟩ = q.s := e1
      have hk0 : (0 : Int) ≤ (k : Int) := by omega
      have hkn : (k : Int) < (n : Int) := by omega
      have hfoot : ∀ t, blkA A' = some t → og + 1 ≤ t ∧ t < wr.heap.size := fun t e => hR.out.foot (.inl e)
      have hbA : ∀ t, t ≤ og → blkA A' ≠ some t := fun t ht e => by have := (hfoot t e).1; omega
      have HG : Hid (∀ x : In (plainEnv wr (og :: (blkA A').toList)), _) := fun x => seat_at (g1.heap ((x.hc.block b (by omega) (by simp; exact ⟨by omega, hbA b (by omega)⟩)).trans (KW.block b hb)))
      have HQ : Hid (∀ x : In (plainEnv wr (og :: (blkA A').toList)), _) := fun x => (blk3 (x.block Q1.out (by simp; exact ⟨by omega, hbA _ (by omega)⟩))).1
      have HE := Lib.hid E1
      have HQ2 := Lib.hid hq
      have HX := Lib.hid e2
      clear e1 e2 g1 E1 hq
      obtain ⟨n0, n1, n2⟩ := (blk3 Q1.out).1
      go_wp2
      have hS0 : Stays (plainEnv wr (og :: (blkA A').toList)) (fun w' => w'.heap[og]? = some (.cells #[.slice (some ⟨gm, 0, none⟩) nm cb, .int .i64 s, .slice A' k c'] 37) ∧ w'.ownsRow (og + 1) 57 15 (.slice A' k c') k (hs.flatMap Cells.cells)) := stays_and (stays_blk (E := plainEnv wr (og :: (blkA A').toList)) (.inr (by simp)) _) (fun w1 w2 hc h b => own_heap h fun t e => b.block t (h.lt t (by rw [← e]; cases A' <;> rfl)).2)
      refine wp_region_own (W := wr) (og :: (blkA A').toList) (fun w' => w'.heap[og]? = some (.cells #[.slice (some ⟨gm, 0, none⟩) nm cb, .int .i64 s, .slice A' k c'] 37) ∧ w'.ownsRow (og + 1) 57 15 (.slice A' k c') k (hs.flatMap Cells.cells)) hS0 ⟨hO.out, hR.out.own⟩ [0, 5, 0, 0, 0, 0, 0, 1, 2, 3, 0, 3] (by kernel_rfl) (by kernel_rfl) (by kernel_rfl) ?_
      refine wpO_quiet 1 rfl (by kernel_rfl) ?_
      simp only [List.take, List.drop]
      repeat (go_big_quiet_step (fail))
      refine wpQuiet_nil ?_
      refine wpO_cell5 (g := og) (i := 2) (cs := #[.slice (some ⟨gm, 0, none⟩) nm cb, .int .i64 s, .slice A' k c']) (.slice A' k c') rfl hS0 (fun w' hw hF => hF.1) rfl (fun w' h => by simp [go_sem, h]) ?_
      simp only [Act.put, List.setIfInBounds_toArray, List.set_cons_succ, List.set_cons_zero]
      have fg := HG.out
      have fq := HQ.out
      try dsimp only at fg
      refine wpO_quiet 5 rfl (by kernel_rfl) ?_
      simp only [List.take, List.drop]
      repeat (go_big_quiet_step (fail))
      refine wpQuiet_nil ?_
      refine wpO_callx (f := 36) (args := #[.agg #[.int .i64 st, .int .i64 sh, .int .i64 sd, .int .i64 sp, .int .i64 eu, .int .i64 es, .int .i64 eh, .int .i64 ea, .int .i64 en, .int .i64 fu, .int .i64 fs, .int .i64 fh, .int .i64 fa, .int .i64 fn, .slice xA xn xc]]) (α := Nat × Nat) (fun z => .agg #[.int .i64 st, .int .i64 sh, .int .i64 sd, .int .i64 sp, .int .i64 eu, .int .i64 es, .int .i64 eh, .int .i64 ea, .int .i64 en, .int .i64 fu, .int .i64 fs, .int .i64 fh, .int .i64 fa, .int .i64 fn, .slice (some ⟨z.1, 0, none⟩) xn z.2]) (fun z => [z.1]) (fun z w' => MadeE w' wr.heap.size 82 q.l z.1 z.2) rfl (fun w' => by simp [go_sem]) (fun z w1 w2 hw h b => h.below b) (fun G => ?_) (fun w' hw hF => ?_) (fun z hz => ?_)
      · obtain ⟨g, hg, hn⟩ := fresh_above wr.heap.size G
        exact ⟨(g, 0), fun k hk => by simp at hk; subst hk; exact ⟨hg, hn⟩⟩
      · have hz' := hw.size
        have KW' : Below w.heap.size w w' := KW.trans ⟨hw.os, hw.tape, hw.output, hw.size, fun t ht => hw.block t (by omega) (by simp; exact ⟨by omega, hbA t (by omega)⟩)⟩
        exact (l14Copy_any ⟨st, sh, sd, sp, ⟨⟨eu, es, eh, ea⟩, en⟩, ⟨⟨fu, fs, fh, fa⟩, fn⟩⟩ xA xn xc q.l w' ((HE.out.below KW').mono KW'.size) xz (by omega)).mono fun e w'' ⟨g, cb, he, m, b1⟩ => ⟨(g, cb), he, m.mono hz', b1, fun k hk => by simp at hk; subst hk; exact m.base⟩
      obtain ⟨lg, lc⟩ := z
      have hlg : wr.heap.size ≤ lg := (hz lg (by simp)).1
      dsimp only
      simp only [Act.put, List.setIfInBounds_toArray, List.set_cons_succ, List.set_cons_zero]
      refine wpO_row (.cells #[.int .i64 st, .int .i64 sh, .int .i64 sd, .int .i64 sp, .int .i64 eu, .int .i64 es, .int .i64 eh, .int .i64 ea, .int .i64 en, .int .i64 fu, .int .i64 fs, .int .i64 fh, .int .i64 fa, .int .i64 fn, .slice (some ⟨lg, 0, none⟩) xn lc] 57) 1 rfl (fun w' => by simp [go_sem]) fun ge mge hge => ?_
      simp only [Act.put, List.setIfInBounds_toArray, List.set_cons_succ, List.set_cons_zero]
      refine wpO_appendA (fun w' => w'.heap[og]? = some (.cells #[.slice (some ⟨gm, 0, none⟩) nm cb, .int .i64 s, .slice A' k c'] 37) ∧ MadeE w' wr.heap.size 82 q.l lg lc) _ _ 35 rfl rfl (og + 1) 57 i0 (SeatV.val .zero none 0 0) 15 by0 Tryz.underlying35 hi hz0 hz1 hz2 rfl (by decide) k (hs.flatMap Cells.cells) A' c' rfl (fun t e => .inr (by simp; exact .inr e)) ⟨ge, 0, none⟩ 1 1 ([(SeatH.mk ⟨st, sh, sd, sp, ⟨⟨eu, es, eh, ea⟩, en⟩, ⟨⟨fu, fs, fh, fa⟩, fn⟩⟩ (some ⟨lg, 0, none⟩) xn lc)].flatMap Cells.cells) rfl rfl flat_one (by omega) (by unfold maxLen; omega) (Nat.le_trans (Nat.mul_le_mul (by omega : k + 1 ≤ 1048577) hby) (by decide)) hzr (fun w' hw hF => ⟨⟨hF.1.1.1, hF.1.2⟩, hF.1.1.2, fun j u hu => by rw [Go.WideShapes.add_plain, Nat.zero_add, blk_cell hF.2, ← Array.getElem?_toList]; rw [List.flatMap_cons, List.flatMap_nil, List.append_nil] at hu; exact hu⟩) (stays_and (stays_blk (E := plainEnv wr (og :: (blkA A').toList)) (.inr (by simp)) _) (fun w1 w2 hw h b => h.below b)) (fun w1 w2 hk h => ⟨(hk og (blk_in h.1) (hbA og (Nat.le_refl _))).trans h.1, h.2.heap (hk lg h.2.base.2 (fun e => by have := (hfoot lg e).2; omega))⟩) (fun gb' cb' hgb' hgm => ?_)
      simp only [Act.put, List.setIfInBounds_toArray, List.set_cons_succ, List.set_cons_zero]
      refine wpO_quiet 1 rfl (by kernel_rfl) ?_
      simp only [List.take, List.drop]
      repeat (go_big_quiet_step (fail))
      refine wpQuiet_nil ?_
      refine wpO_put (g := og) (i := 2) (t := 37) (cs := #[.slice (some ⟨gm, 0, none⟩) nm cb, .int .i64 s, .slice A' k c']) (fun w' => MadeE w' wr.heap.size 82 q.l lg lc ∧ w'.ownsRow (og + 1) 57 15 (.slice (some ⟨gb', 0, none⟩) (k + 1) cb') (k + 1) (hs.flatMap Cells.cells ++ [(SeatH.mk ⟨st, sh, sd, sp, ⟨⟨eu, es, eh, ea⟩, en⟩, ⟨⟨fu, fs, fh, fa⟩, fn⟩⟩ (some ⟨lg, 0, none⟩) xn lc)].flatMap Cells.cells)) (.slice (some ⟨gb', 0, none⟩) (k + 1) cb') rfl (.inr (by simp)) (fun w' h => by have h1 := blk_cell h 2; have h2 := blk_frozen h 2; simp [go_sem, h1, h2]) (fun w' h => ⟨⟨h.1.2, h.2⟩, h.1.1⟩) (stays_and (fun w1 w2 hw h b => h.below b) (fun w1 w2 hc h b => own_heap h fun t e => b.block t (h.lt t e).2)) (fun w1 w2 hw h => ⟨h.1.heap (hw lg h.1.base.2 (by omega)), own_heap h.2 fun t e => hw t (h.2.lt t e).2 (by have e1 : gb' = t := Option.some.inj e; omega)⟩) ?_
      simp only [Act.put]
      refine wpO_nil ?_
      rintro w6 b6 ⟨⟨h1, h2⟩, h3⟩
      have HO := Lib.hid h3
      have hs6 := b6.size
      have HN : Hid (RowS w6 (og + 1) (some ⟨gb', 0, none⟩) (k + 1) cb' (hs ++ [SeatH.mk ⟨st, sh, sd, sp, ⟨⟨eu, es, eh, ea⟩, en⟩, ⟨⟨fu, fs, fh, fa⟩, fn⟩⟩ (some ⟨lg, 0, none⟩) xn lc]) (ss.take (k + 1))) := by
        have ht : ss.take (k + 1) = ss.take k ++ [q] := by rw [List.take_add_one, HQ2.out]; rfl
        show RowS _ _ _ _ _ _ _
        rw [ht]
        refine hR.out.next _ q HX.out (.inr ⟨lg, rfl, hxl.symm, h1⟩) hzr (fun j y hy t ht => b6.block t (hR.out.foot (.inr ⟨j, y, hy, ht⟩)).2 ?_) (by rw [List.flatMap_append]; exact h2)
        have h5 := (hR.out.foot (.inr ⟨j, y, hy, ht⟩)).1
        have h6 := hR.out.apart.front j y hy t ht
        simp
        exact ⟨by omega, h6⟩
      have HB6 : Hid (Below og L0 w6) := hB.out.trans ⟨b6.os, b6.tape, b6.output, b6.size, fun t ht => b6.block t (by omega) (by simp; exact ⟨by omega, hbA t (by omega)⟩)⟩
      clear h1 h2 h3 b6 fg fq HE HX HQ2 hS0
      go_wp2
      go_roundw
      case rel => exact ⟨k + 1, some ⟨gb', 0, none⟩, cb', _, by omega, by go_num, HO.out, HN.out, HB6.out, by omega⟩
      case measure => simp [intOf]; omega
    · obtain rfl : k = n := by omega
      have hlt' : ¬ (k : Int) < (k : Int) := by omega
      have R1 := Lib.hid ((hB.out.block _ (show w.heap.size + 1 < og by omega)).trans RR.out)
      have KW : Hid (Below w.heap.size w wr) := KK.out.trans (hB.out.mono (by omega))
      have HI : Hid (HeldI wr W0.heap.size ⟨some ⟨gm, 0, none⟩, nm, cb, A', k, c', hs⟩ zs ss) := ⟨M2.out.heap (fun t e => hB.out.block t (by have e1 : gm = t := Option.some.inj e; omega)), by
        have h9 := hR.out.held.mono (base' := W0.heap.size) (by omega)
        rw [List.take_of_length_le (by rw [hlen]; exact Nat.le_refl _)] at h9
        exact h9, fun t e1 e2 => by
        have e3 : gm = t := Option.some.inj e1
        have := (hR.out.foot e2).1
        omega⟩
      obtain ⟨n0, n1, n2⟩ := (blk3 Q1.out).1
      have hO2 := hO
      clear hR hO
      go_wp2_with (first | (refine wpList_load_row rfl 37 _ rfl og rfl 37 _ (0, 0) _ hO2.out Tryz.underlying37 rfl (by kernel_rfl) ?_) | (refine wpList_store_row rfl 37 _ _ rfl (w.heap.size + 1) #[.slice (some ⟨gm, 0, none⟩) nm cb, .int .i64 s, .slice A' k c'] rfl rfl 37 _ R1.out (by kernel_rfl) rfl (by simp [Value.oneCell']) ?_))
      exact row_ret (r := w.heap.size + 1) (cs := #[.slice (some ⟨gm, 0, none⟩) nm cb, .int .i64 s, .slice A' k c']) rfl rfl (setRow_heap _ _ _ _ _ _ R1.out) Tryz.underlying37 rfl (by kernel_rfl) rfl ⟨⟨some ⟨gm, 0, none⟩, nm, cb, A', k, c', hs⟩, rfl, rfl, rfl, (HI.out.heap (fun t e => setRow_other _ _ _ _ (by have := (HI.out.foot e).1; omega)) (Nat.le_of_eq (size_setRow _ _ _).symm)).mono (by omega), below_setRow KW.out (by omega) _⟩

end Go.Proofs.YtioogmeghmeelaaGreatDoor.Tx
namespace Go.Proofs.YtioogmeghmeelaaGreatDoor.Tx
open Go.RowKit

set_option maxRecDepth 100000 in
set_option maxHeartbeats 32000000 in
theorem Hand_spec (M : Option Addr) (nm cm : Nat) (zs : List Int) (s : Int) (A : Option Addr) (n cap : Nat) (ss : List SeatL) (k : Int) (b : BoxV) (w : World) (h : InnO w w.heap.size M nm A n zs ss) (hMz : M = none → cm = 0) (hnm : nm ≤ 1048576) (hn : n ≤ 1048576) (hl : ∀ q ∈ ss, q.l.length ≤ 1048576) :
    Calls Tryz.prog 6 #[.agg #[.slice M nm cm, .int .i64 s, .slice A n cap], .int .i64 k, b.val] w fun e w' => ∃ i : InnH, e = .returned (.tuple #[i.val (handT zs s ss), .int .i64 (handC zs s ss k b)]) ∧ HeldI w' w.heap.size i (handZ zs s ss) (handL zs s ss k b) ∧ Below w.heap.size w w' := by
  have E := Lib.hid h
  have HL := Lib.hid hl
  have hlen := h.seats.len
  have cO : Hid (∀ (w' : World), InnO w' w'.heap.size M nm A n zs ss → Calls Tryz.prog 15 #[.agg #[.slice M nm cm, .int .i64 s, .slice A n cap]] w' fun e w'' => e = .returned (.bool (innOkB zs s ss)) ∧ Below w'.heap.size w' w'') := fun w' hE => InnOk_spec M nm cm zs s A n cap ss w' hE.mem hE.seats hnm hn
  have cC : Hid (∀ (w' : World), InnO w' w'.heap.size M nm A n zs ss → Calls Tryz.prog 16 #[.agg #[.slice M nm cm, .int .i64 s, .slice A n cap]] w' fun e w'' => ∃ i : InnH, e = .returned (i.val s) ∧ i.mn = nm ∧ i.n = n ∧ HeldI w'' w'.heap.size i zs ss ∧ Below w'.heap.size w' w'') := fun w' hE => l15Copy_any M nm cm zs s A n cap ss w' hE hMz hnm hn hl
  obtain ⟨bo, hok⟩ : ∃ b, innOkB zs s ss = b := ⟨_, rfl⟩
  clear h hl
  obtain ⟨⟨xu, xs, xh, xa⟩, xn, xt, xp⟩ := b
  have HV : Hid (BoxV.val ⟨⟨xu, xs, xh, xa⟩, xn, xt, xp⟩ = .agg #[.int .i64 xu, .int .i64 xs, .int .i64 xh, .int .i64 xa, .int .i64 xn, .string xt, .bool xp]) := rfl
  rw [HV.out]
  clear HV
  obtain ⟨W0, hW0⟩ : ∃ W, ((w.alloc (.cells #[.slice M nm cm, .int .i64 s, .slice A n cap] 37)).alloc (.cells #[.int .i64 xu, .int .i64 xs, .int .i64 xh, .int .i64 xa, .int .i64 xn, .string xt, .bool xp] 43)).alloc (.cells #[.slice none 0 0, .int .i64 0, .slice none 0 0] 37) = W := ⟨_, rfl⟩
  have K0 : Hid (Below w.heap.size w W0) := by rw [← hW0]; exact (((Below.refl _ w).alloc (Nat.le_refl _) _).alloc (by simp; try omega) _).alloc (by simp; try omega) _
  have Q0 : Hid (W0.heap[w.heap.size]? = some (.cells #[.slice M nm cm, .int .i64 s, .slice A n cap] 37)) := by rw [← hW0]; exact heap3a w _ _ _
  have X0 : Hid (W0.heap[w.heap.size + 1]? = some (.cells #[.int .i64 xu, .int .i64 xs, .int .i64 xh, .int .i64 xa, .int .i64 xn, .string xt, .bool xp] 43)) := by rw [← hW0]; exact heap3b w _ _ _
  have R0 : Hid (W0.heap[w.heap.size + 1 + 1]? = some (.cells #[.slice none 0 0, .int .i64 0, .slice none 0 0] 37)) := by rw [← hW0]; exact heap3c w _ _ _
  have zW0 : W0.heap.size = w.heap.size + 3 := by rw [← hW0]; simp
  go_enter Tryz.func6, Tryz.ntmps6
  go_wp2_with (refine wpList_load_row rfl 37 _ rfl (w.heap.size) rfl 37 _ (0, 0) _ Q0.out Tryz.underlying37 rfl (by kernel_rfl) ?_)
  clear hW0
  have cz := cO.out _ ((E.out.below K0.out).mono K0.out.size)
  rw [hok] at cz
  have hw1 : True := trivial
  refine cz.mono ?_
  rintro e w1 ⟨rfl, hb⟩
  have hs1 := hb.size
  clear cz
  have Q1 := Lib.hid (blk_on hb Q0.out)
  have X1 := Lib.hid (blk_on hb X0.out)
  have R1 := Lib.hid (blk_on hb R0.out)
  have K1 := Lib.hid (K0.out.trans (hb.mono K0.out.size))
  clear hb Q0 X0 R0 K0
  cases bo with
  | false =>
    have HE9 := Lib.hid (hand_bad hok k ⟨⟨xu, xs, xh, xa⟩, xn, xt, xp⟩)
    go_wp2_with (refine wpList_store_row rfl 37 _ _ rfl (w.heap.size + 1 + 1) #[.slice none 0 0, .int .i64 0, .slice none 0 0] rfl rfl 37 _ R1.out (by kernel_rfl) rfl (by simp [Value.oneCell']) ?_)
    exact row_ret2 (r := w.heap.size + 1 + 1) (cs := #[.slice none 0 0, .int .i64 0, .slice none 0 0]) rfl rfl rfl (setRow_heap _ _ _ _ _ _ R1.out) Tryz.underlying37 rfl (by kernel_rfl) rfl ⟨(InnH.mk none 0 0 none 0 0 []), by rw [HE9.out.2.1, HE9.out.2.2.2]; rfl, by rw [HE9.out.1, HE9.out.2.2.1]; exact ⟨ownN_nil _ _, heldS_nil _ _, fun k e => by cases e⟩, below_setRow K1.out (by omega) _⟩
  | true =>
    go_wp2_with (refine wpList_load_row rfl 37 _ rfl (w.heap.size) rfl 37 _ (0, 0) _ Q1.out Tryz.underlying37 rfl (by kernel_rfl) ?_)
    refine (cC.out _ ((E.out.below K1.out).mono K1.out.size)).mono ?_
    rintro e wc ⟨⟨iM, im, ic, iA, il, iC, ih⟩, rfl, hm1, hm2, HI, hb⟩
    obtain rfl : nm = im := hm1.symm
    obtain rfl : n = il := hm2.symm
    have hzc : W0.heap.size ≤ w1.heap.size := by omega
    have HH := Lib.hid (HI.mono hzc)
    have hzd := hb.size
    clear HI
    have Q2 := Lib.hid (blk_on hb Q1.out)
    have X2 := Lib.hid (blk_on hb X1.out)
    have R2 := Lib.hid (blk_on hb R1.out)
    have K2 := Lib.hid (K1.out.trans (hb.mono K1.out.size))
    clear hb Q1 X1 R1 K1
    obtain ⟨V3, hV3⟩ : ∃ V, wc.alloc (.cells #[.slice none 0 0, .int .i64 0, .slice none 0 0] 37) = V := ⟨_, rfl⟩
    have ltV3Q : w.heap.size < wc.heap.size := blk_in Q2.out
    have ltV3X : w.heap.size + 1 < wc.heap.size := blk_in X2.out
    have ltV3R : w.heap.size + 1 + 1 < wc.heap.size := blk_in R2.out
    have Q3 : Hid (V3.heap[w.heap.size]? = some (.cells #[.slice M nm cm, .int .i64 s, .slice A n cap] 37)) := by rw [← hV3]; exact alloc_blk Q2.out
    have X3 : Hid (V3.heap[w.heap.size + 1]? = some (.cells #[.int .i64 xu, .int .i64 xs, .int .i64 xh, .int .i64 xa, .int .i64 xn, .string xt, .bool xp] 43)) := by rw [← hV3]; exact alloc_blk X2.out
    have R3 : Hid (V3.heap[w.heap.size + 1 + 1]? = some (.cells #[.slice none 0 0, .int .i64 0, .slice none 0 0] 37)) := by rw [← hV3]; exact alloc_blk R2.out
    have hb : Below wc.heap.size wc V3 := by rw [← hV3]; exact (Below.refl _ wc).alloc (Nat.le_refl _) _
    have K3 := Lib.hid (K2.out.trans (hb.mono K2.out.size))
    have O3 : Hid (V3.heap[wc.heap.size]? = some (.cells #[.slice none 0 0, .int .i64 0, .slice none 0 0] 37)) := by rw [← hV3]; exact heap1 wc _
    have lbV3 : w.heap.size ≤ wc.heap.size := K2.out.size
    clear hb Q2 X2 R2 K2
    have Q4 : Hid ((V3.setRow wc.heap.size #[.slice iM nm ic, .int .i64 s, .slice iA n iC]).heap[w.heap.size]? = some (.cells #[.slice M nm cm, .int .i64 s, .slice A n cap] 37)) := (setRow_other _ _ _ _ (by omega)).trans Q3.out
    have X4 : Hid ((V3.setRow wc.heap.size #[.slice iM nm ic, .int .i64 s, .slice iA n iC]).heap[w.heap.size + 1]? = some (.cells #[.int .i64 xu, .int .i64 xs, .int .i64 xh, .int .i64 xa, .int .i64 xn, .string xt, .bool xp] 43)) := (setRow_other _ _ _ _ (by omega)).trans X3.out
    have R4 : Hid ((V3.setRow wc.heap.size #[.slice iM nm ic, .int .i64 s, .slice iA n iC]).heap[w.heap.size + 1 + 1]? = some (.cells #[.slice none 0 0, .int .i64 0, .slice none 0 0] 37)) := (setRow_other _ _ _ _ (by omega)).trans R3.out
    have O4 : Hid ((V3.setRow wc.heap.size #[.slice iM nm ic, .int .i64 s, .slice iA n iC]).heap[wc.heap.size]? = some (.cells #[.slice iM nm ic, .int .i64 s, .slice iA n iC] 37)) := setRow_heap _ _ _ _ _ _ O3.out
    have K4 : Hid (Below w.heap.size w (V3.setRow wc.heap.size #[.slice iM nm ic, .int .i64 s, .slice iA n iC])) := below_setRow K3.out (by omega) _
    have zV : V3.heap.size = wc.heap.size + 1 := by rw [← hV3]; simp
    have zS := size_setRow V3 wc.heap.size #[.slice iM nm ic, .int .i64 s, .slice iA n iC]
    have HF0 : ∀ t, FootI (InnH.mk iM nm ic iA n iC ih) t → W0.heap.size ≤ t ∧ t < wc.heap.size := fun t e => HH.out.foot e
    have HV : HeldI V3 W0.heap.size (InnH.mk iM nm ic iA n iC ih) zs ss := by rw [← hV3]; exact HH.out.on ((Below.refl _ _).alloc (Nat.le_refl _) _)
    have H4 : Hid (HeldI (V3.setRow wc.heap.size #[.slice iM nm ic, .int .i64 s, .slice iA n iC]) W0.heap.size (InnH.mk iM nm ic iA n iC ih) zs ss) := HV.heap (fun t e => setRow_other _ _ _ _ (by have := HF0 t e; omega)) (Nat.le_of_eq (size_setRow _ _ _).symm)
    clear HH HV
    obtain ⟨⟨q0, q1, q2⟩, _⟩ := blk3 Q4.out
    go_wp2_with (refine wpList_store_row rfl 37 _ _ rfl (wc.heap.size) #[.slice iM nm ic, .int .i64 s, .slice iA n iC] rfl rfl 37 _ O3.out (by kernel_rfl) rfl (by simp [Value.oneCell']) ?_)
    clear q0 q1 q2
    clear hV3 Q3 X3 R3 O3 K3
    generalize V3.setRow wc.heap.size #[.slice iM nm ic, .int .i64 s, .slice iA n iC] = S4 at Q4 X4 R4 O4 K4 H4 zS ⊢
    obtain ⟨og, hog⟩ : ∃ x, wc.heap.size = x := ⟨_, rfl⟩
    rw [hog] at O4 HF0 zV hzd ⊢
    have hogl : og < S4.heap.size := by omega
    have hog2 : w.heap.size + 3 ≤ og := by omega
    clear zS zV hog
    obtain ⟨bi, hbi⟩ : ∃ b, (decide ((0 : Int) ≤ k) && decide (k ≤ (n : Int) - 1)) = b := ⟨_, rfl⟩
    have ci := l1In_any k 0 ((n : Int) - 1) S4
    rw [hbi] at ci
    refine ((ci.mono fun _ _ ⟨he, hw⟩ => ⟨he, hw ▸ Below.refl _ _⟩ : Calls Tryz.prog _ _ _ fun e w' => e = .returned (.bool bi) ∧ Below S4.heap.size S4 w')).mono ?_
    rintro e w5 ⟨rfl, hb⟩
    clear ci
    have Q5 := Lib.hid (blk_on hb Q4.out)
    have X5 := Lib.hid (blk_on hb X4.out)
    have R5 := Lib.hid (blk_on hb R4.out)
    have O5 := Lib.hid (blk_on hb O4.out)
    have H5 := Lib.hid (H4.out.on hb)
    have K5 := Lib.hid (K4.out.trans (hb.mono K4.out.size))
    clear hb Q4 X4 R4 O4 K4 H4
    have hogl2 := blk_in O5.out
    cases bi with
    | false =>
      have hin : ¬ (0 ≤ k ∧ k ≤ (ss.length : Int) - 1) := fun h => by
        rw [hlen] at h
        rw [decide_eq_true h.1, decide_eq_true h.2] at hbi
        cases hbi
      have HE9 := Lib.hid (hand_none hok hin ⟨⟨xu, xs, xh, xa⟩, xn, xt, xp⟩)
      have HH := H5
      go_wp2_with (first | (refine wpList_load_row rfl 37 _ rfl (og) rfl 37 _ (0, 0) _ O5.out Tryz.underlying37 rfl (by kernel_rfl) ?_) | (refine wpList_store_row rfl 37 _ _ rfl (w.heap.size + 1 + 1) #[.slice iM nm ic, .int .i64 s, .slice iA n iC] rfl rfl 37 _ R5.out (by kernel_rfl) rfl (by simp [Value.oneCell']) ?_))
      exact row_ret2 (r := w.heap.size + 1 + 1) (cs := #[.slice iM nm ic, .int .i64 s, .slice iA n iC]) rfl rfl rfl (setRow_heap _ _ _ _ _ _ R5.out) Tryz.underlying37 rfl (by kernel_rfl) rfl ⟨(InnH.mk iM nm ic iA n iC ih), by rw [HE9.out.2.1, HE9.out.2.2.2]; rfl, by rw [HE9.out.1, HE9.out.2.2.1]; exact (HH.out.heap (fun t e => setRow_other _ _ _ _ (by have := HF0 t e; omega)) (Nat.le_of_eq (size_setRow _ _ _).symm)).mono (by omega), below_setRow K5.out (by omega) _⟩
    | true =>
      rw [Bool.and_eq_true, decide_eq_true_iff, decide_eq_true_iff] at hbi
      obtain ⟨j, rfl⟩ := Int.eq_ofNat_of_zero_le hbi.1
      have hjn : j < n := by omega
      obtain ⟨b, off, ⟨⟨st, sh, sd, sp, ⟨⟨eu, es, eh, ea⟩, en⟩, ⟨⟨fu, fs, fh, fa⟩, fn⟩⟩, pA, pn, pc⟩, q, rfl, hb, hq, e1, g1, E1, xz⟩ := E.out.seats.at hjn
      have he9 := hand_some hok hq ⟨⟨xu, xs, xh, xa⟩, xn, xt, xp⟩
      rw [heardSeat] at he9
      have hxl : q.l.length = pn := E1.1
      have hql : q.l.length ≤ 1048576 := HL.out q (List.mem_of_getElem? hq)
      have e2 : ⟨st, sh, sd, sp, ⟨⟨eu, es, eh, ea⟩, en⟩, ⟨⟨fu, fs, fh, fa⟩, fn⟩⟩ = q.s := e1
      have HX := Lib.hid e2
      have HQ2 := Lib.hid hq
      have HE := Lib.hid E1
      obtain ⟨ol, hol⟩ : ∃ o, hearL q.s q.l ⟨⟨xu, xs, xh, xa⟩, xn, xt, xp⟩ = o := ⟨_, rfl⟩
      obtain ⟨⟨rst, rsh, rsd, rsp, ⟨⟨reu, res, reh, rea⟩, ren⟩, ⟨⟨rfu, rfs, rfh, rfa⟩, rfn⟩⟩, hr⟩ : ∃ o, hearS q.s q.l.length ⟨⟨xu, xs, xh, xa⟩, xn, xt, xp⟩ = o := ⟨_, rfl⟩
      obtain ⟨y, hy⟩ : ∃ o, hearC q.s q.l.length ⟨⟨xu, xs, xh, xa⟩, xn, xt, xp⟩ = o := ⟨_, rfl⟩
      rw [hol, hr, hy] at he9
      have HE9 := Lib.hid he9
      clear he9
      have cH : Hid (∀ (w' : World), EltsO w' w'.heap.size pA pn q.l → Calls Tryz.prog 18 #[.agg #[.int .i64 st, .int .i64 sh, .int .i64 sd, .int .i64 sp, .int .i64 eu, .int .i64 es, .int .i64 eh, .int .i64 ea, .int .i64 en, .int .i64 fu, .int .i64 fs, .int .i64 fh, .int .i64 fa, .int .i64 fn, .slice pA pn pc], .agg #[.int .i64 xu, .int .i64 xs, .int .i64 xh, .int .i64 xa, .int .i64 xn, .string xt, .bool xp]] w' fun e w'' => ∃ (B : Option Addr) (c : Nat), e = .returned (.tuple #[.agg #[.int .i64 rst, .int .i64 rsh, .int .i64 rsd, .int .i64 rsp, .int .i64 reu, .int .i64 res, .int .i64 reh, .int .i64 rea, .int .i64 ren, .int .i64 rfu, .int .i64 rfs, .int .i64 rfh, .int .i64 rfa, .int .i64 rfn, .slice B ol.length c], .int .i64 y]) ∧ OutE w'' w'.heap.size 82 B ol.length c ol ∧ Below w'.heap.size w' w'') := fun w' hE => by
        have h1 := Hears_spec ⟨st, sh, sd, sp, ⟨⟨eu, es, eh, ea⟩, en⟩, ⟨⟨fu, fs, fh, fa⟩, fn⟩⟩ pA pn pc q.l ⟨⟨xu, xs, xh, xa⟩, xn, xt, xp⟩ w' hE xz (by omega)
        rw [e2, ← hxl, hr, hy, hol, ← e2, hxl] at h1
        exact h1.mono fun e w'' ⟨B, m, c, he, ho, hb⟩ => by
          have hm := ho.out.len
          subst hm
          exact ⟨B, c, he, ho.out, hb⟩
      clear hol hr hy e1 E1 hq e2
      have hj0 : (0 : Int) ≤ (j : Int) := by omega
      have hjn' : (j : Int) < (n : Int) := by omega
      have HG : Hid (∀ x : In (plainEnv w5 []), _) := fun x => seat_at (g1.heap ((x.hc.block b (by have := K5.out.size; omega) (by simp)).trans (K5.out.block b hb)))
      clear g1
      go_wp2
      refine wp_region_own (W := w5) [] (fun _ => True) stays_true trivial [0, 0, 0, 0, 0, 0, 1, 0, 0, 0, 2, 3, 0] (by kernel_rfl) (by kernel_rfl) (by kernel_rfl) ?_
      have fQ : ∀ q : In (plainEnv w5 []), _ := fun q => (blk3 (q.block Q5.out (by simp))).1
      have rX : Hid (∀ q : In (plainEnv w5 []), q.w.heap[w.heap.size + 1]? = some (.cells #[.int .i64 xu, .int .i64 xs, .int .i64 xh, .int .i64 xa, .int .i64 xn, .string xt, .bool xp] 43)) := fun q => q.block X5.out (by simp)
      have fg := HG.out
      refine wpO_quiet 5 rfl (by kernel_rfl) ?_
      simp only [List.take, List.drop]
      repeat (go_big_quiet_step (fail))
      refine wpQuiet_nil ?_
      refine wpO_load_row rfl 43 _ rfl (w.heap.size + 1) rfl 43 _ (0, 0) _ rX.out Tryz.underlying43 rfl (by kernel_rfl) ?_
      simp only [Act.put, List.setIfInBounds_toArray, List.set_cons_succ, List.set_cons_zero]
      refine wpO_callx (f := 18) (args := #[.agg #[.int .i64 st, .int .i64 sh, .int .i64 sd, .int .i64 sp, .int .i64 eu, .int .i64 es, .int .i64 eh, .int .i64 ea, .int .i64 en, .int .i64 fu, .int .i64 fs, .int .i64 fh, .int .i64 fa, .int .i64 fn, .slice pA pn pc], .agg #[.int .i64 xu, .int .i64 xs, .int .i64 xh, .int .i64 xa, .int .i64 xn, .string xt, .bool xp]]) (α := Option Addr × Nat) (fun z => .tuple #[.agg #[.int .i64 rst, .int .i64 rsh, .int .i64 rsd, .int .i64 rsp, .int .i64 reu, .int .i64 res, .int .i64 reh, .int .i64 rea, .int .i64 ren, .int .i64 rfu, .int .i64 rfs, .int .i64 rfh, .int .i64 rfa, .int .i64 rfn, .slice z.1 ol.length z.2], .int .i64 y]) (fun z => (blkA z.1).toList) (fun z w' => OutE w' w5.heap.size 82 z.1 ol.length z.2 ol) rfl (fun w' => by simp [go_sem]) (fun z w1 w2 hw h b => h.on b) (fun G => ⟨(none, 0), fun k hk => by cases hk⟩) (fun w' hw hF => ?_) (fun z hz => ?_)
      · have kb := kept_below hw
        exact (cH.out w' ((HE.out.below (K5.out.trans (kb.mono K5.out.size))).mono (Nat.le_trans K5.out.size kb.size))).mono fun e w'' ⟨B, c, he, m, b1⟩ => ⟨(B, c), he, m.mono kb.size, b1, fun k hk => m.lt (by simpa using hk)⟩
      obtain ⟨B, bc⟩ := z
      dsimp only
      simp only [Act.put, List.setIfInBounds_toArray, List.set_cons_succ, List.set_cons_zero]
      refine wpO_quiet 3 rfl (by kernel_rfl) ?_
      simp only [List.take, List.drop]
      repeat (go_big_quiet_step (fail))
      refine wpQuiet_nil ?_
      refine wpO_alloc (.cells #[.int .i64 0, .int .i64 0, .int .i64 0, .int .i64 0, .int .i64 0, .int .i64 0, .int .i64 0, .int .i64 0, .int .i64 0, .int .i64 0, .int .i64 0, .int .i64 0, .int .i64 0, .int .i64 0, .slice none 0 0] 57) rfl (fun w' => by simp [go_sem]) fun gS mg hng => ?_
      have hgS : w5.heap.size ≤ gS := mg
      have hneS : ∀ k, blkA B = some k → k ≠ gS := fun k e e2 => hng (by subst e2; simp [e])
      simp only [Act.put, List.setIfInBounds_toArray, List.set_cons_succ, List.set_cons_zero]
      refine wpO_store (g := gS) (t := 57) (old := #[.int .i64 0, .int .i64 0, .int .i64 0, .int .i64 0, .int .i64 0, .int .i64 0, .int .i64 0, .int .i64 0, .int .i64 0, .int .i64 0, .int .i64 0, .int .i64 0, .int .i64 0, .int .i64 0, .slice none 0 0]) (fun w' => OutE w' w5.heap.size 82 B ol.length bc ol) #[.int .i64 rst, .int .i64 rsh, .int .i64 rsd, .int .i64 rsp, .int .i64 reu, .int .i64 res, .int .i64 reh, .int .i64 rea, .int .i64 ren, .int .i64 rfu, .int .i64 rfs, .int .i64 rfh, .int .i64 rfa, .int .i64 rfn, .slice B ol.length bc] rfl rfl rfl rfl (Env.own _ mg) (by kernel_rfl) rfl rfl (fun w' h => ⟨h.1.2, h.2⟩) (fun w1 w2 hw h b => h.on b) (fun w1 w2 hw h => h.heap (fun k e => hw k (h.lt e).2 (hneS k e))) ?_
      simp only [Act.put]
      refine wpO_quiet 1 rfl (by kernel_rfl) ?_
      simp only [List.take, List.drop]
      repeat (go_big_quiet_step (fail))
      refine wpQuiet_nil ?_
      refine wpO_nil ?_
      rintro w6 hb' ⟨hM, hG⟩
      have hb := kept_below hb'
      have ltS := blk_in hG
      have Q6 := Lib.hid (blk_on hb Q5.out)
      have X6 := Lib.hid (blk_on hb X5.out)
      have R6 := Lib.hid (blk_on hb R5.out)
      have O6 := Lib.hid (blk_on hb O5.out)
      have H6 := Lib.hid (H5.out.on hb)
      have K6 := Lib.hid (K5.out.trans (hb.mono K5.out.size))
      clear hb hb' fg HG fQ rX Q5 X5 R5 O5 K5 H5
      have S6 := Lib.hid hG
      have LG := Lib.hid hM
      clear hG hM
      obtain ⟨ig, rfl, hig, hT⟩ : ∃ g, iA = some ⟨g, 0, none⟩ ∧ FootI (InnH.mk iM nm ic iA n iC ih) g ∧ There w6 g 0 (n * 15) := by
        rcases H6.out.seats.front with ⟨_, e⟩ | ⟨g, e, h1, h2, h3, h4⟩
        · exact absurd (show n = 0 from e) (by omega)
        · have e' : iA = some ⟨g, 0, none⟩ := e
          exact ⟨g, e', .inr (.inl (by show blkA iA = _; rw [e']; rfl)), h3⟩
      have HT := Lib.hid hT
      have hig2 := HF0 ig hig
      clear hT hig
      have HPA : Hid (HeldI (setAll w6 ig (j * 15) (Cells.cells (SeatH.mk ⟨rst, rsh, rsd, rsp, ⟨⟨reu, res, reh, rea⟩, ren⟩, ⟨⟨rfu, rfs, rfh, rfa⟩, rfn⟩⟩ B ol.length bc))) W0.heap.size (InnH.mk iM nm ic (some ⟨ig, 0, none⟩) n iC (ih.set j (SeatH.mk ⟨rst, rsh, rsd, rsp, ⟨⟨reu, res, reh, rea⟩, ren⟩, ⟨⟨rfu, rfs, rfh, rfa⟩, rfn⟩⟩ B ol.length bc))) zs (ss.set j ⟨⟨rst, rsh, rsd, rsp, ⟨⟨reu, res, reh, rea⟩, ren⟩, ⟨⟨rfu, rfs, rfh, rfa⟩, rfn⟩⟩, ol⟩)) := H6.out.put hjn (SeatH.mk ⟨rst, rsh, rsd, rsp, ⟨⟨reu, res, reh, rea⟩, ren⟩, ⟨⟨rfu, rfs, rfh, rfa⟩, rfn⟩⟩ B ol.length bc) ⟨⟨rst, rsh, rsd, rsp, ⟨⟨reu, res, reh, rea⟩, ren⟩, ⟨⟨rfu, rfs, rfh, rfa⟩, rfn⟩⟩, ol⟩ rfl LG.out (fun t e => by have := HF0 t e; omega) (by omega)
      obtain ⟨S9, qS9⟩ : ∃ W, setAll w6 ig (j * 15) [.int .i64 rst, .int .i64 rsh, .int .i64 rsd, .int .i64 rsp, .int .i64 reu, .int .i64 res, .int .i64 reh, .int .i64 rea, .int .i64 ren, .int .i64 rfu, .int .i64 rfs, .int .i64 rfh, .int .i64 rfa, .int .i64 rfn, .slice B ol.length bc] = W := ⟨_, rfl⟩
      have hS9 : (((((((((((((((w6.setCell ⟨ig, j * 15, none⟩ (.int .i64 rst)).setCell ⟨ig, j * 15 + 1, none⟩ (.int .i64 rsh)).setCell ⟨ig, j * 15 + 2, none⟩ (.int .i64 rsd)).setCell ⟨ig, j * 15 + 3, none⟩ (.int .i64 rsp)).setCell ⟨ig, j * 15 + 4, none⟩ (.int .i64 reu)).setCell ⟨ig, j * 15 + 5, none⟩ (.int .i64 res)).setCell ⟨ig, j * 15 + 6, none⟩ (.int .i64 reh)).setCell ⟨ig, j * 15 + 7, none⟩ (.int .i64 rea)).setCell ⟨ig, j * 15 + 8, none⟩ (.int .i64 ren)).setCell ⟨ig, j * 15 + 9, none⟩ (.int .i64 rfu)).setCell ⟨ig, j * 15 + 10, none⟩ (.int .i64 rfs)).setCell ⟨ig, j * 15 + 11, none⟩ (.int .i64 rfh)).setCell ⟨ig, j * 15 + 12, none⟩ (.int .i64 rfa)).setCell ⟨ig, j * 15 + 13, none⟩ (.int .i64 rfn)).setCell ⟨ig, j * 15 + 14, none⟩ (.slice B ol.length bc)) = S9 := qS9
      have Q7 : Hid (S9.heap[w.heap.size]? = some (.cells #[.slice M nm cm, .int .i64 s, .slice (some ⟨b, off, none⟩) n cap] 37)) := by rw [← qS9]; exact setAll_away (by omega) _ _ Q6.out
      have X7 : Hid (S9.heap[w.heap.size + 1]? = some (.cells #[.int .i64 xu, .int .i64 xs, .int .i64 xh, .int .i64 xa, .int .i64 xn, .string xt, .bool xp] 43)) := by rw [← qS9]; exact setAll_away (by omega) _ _ X6.out
      have R7 : Hid (S9.heap[w.heap.size + 1 + 1]? = some (.cells #[.slice none 0 0, .int .i64 0, .slice none 0 0] 37)) := by rw [← qS9]; exact setAll_away (by omega) _ _ R6.out
      have O7 : Hid (S9.heap[og]? = some (.cells #[.slice iM nm ic, .int .i64 s, .slice (some ⟨ig, 0, none⟩) n iC] 37)) := by rw [← qS9]; exact setAll_away (by omega) _ _ O6.out
      have S7 : Hid (S9.heap[gS]? = some (.cells #[.int .i64 rst, .int .i64 rsh, .int .i64 rsd, .int .i64 rsp, .int .i64 reu, .int .i64 res, .int .i64 reh, .int .i64 rea, .int .i64 ren, .int .i64 rfu, .int .i64 rfs, .int .i64 rfh, .int .i64 rfa, .int .i64 rfn, .slice B ol.length bc] 57)) := by rw [← qS9]; exact setAll_away (by omega) _ _ S6.out
      have K7 : Hid (Below w.heap.size w S9) := by rw [← qS9]; exact setAll_below (g := ig) (by omega) [.int .i64 rst, .int .i64 rsh, .int .i64 rsd, .int .i64 rsp, .int .i64 reu, .int .i64 res, .int .i64 reh, .int .i64 rea, .int .i64 ren, .int .i64 rfu, .int .i64 rfs, .int .i64 rfh, .int .i64 rfa, .int .i64 rfn, .slice B ol.length bc] (j * 15) K6.out
      have HP : Hid (HeldI S9 W0.heap.size (InnH.mk iM nm ic (some ⟨ig, 0, none⟩) n iC (ih.set j (SeatH.mk ⟨rst, rsh, rsd, rsp, ⟨⟨reu, res, reh, rea⟩, ren⟩, ⟨⟨rfu, rfs, rfh, rfa⟩, rfn⟩⟩ B ol.length bc))) zs (ss.set j ⟨⟨rst, rsh, rsd, rsp, ⟨⟨reu, res, reh, rea⟩, ren⟩, ⟨⟨rfu, rfs, rfh, rfa⟩, rfn⟩⟩, ol⟩)) := by rw [← qS9]; exact HPA.out
      clear HPA qS9
      obtain ⟨⟨v0, c0⟩, d0⟩ := HT.out (j * 15) (by omega) (by omega)
      obtain ⟨⟨v1, c1⟩, d1⟩ := HT.out (j * 15 + 1) (by omega) (by omega)
      obtain ⟨⟨v2, c2⟩, d2⟩ := HT.out (j * 15 + 2) (by omega) (by omega)
      obtain ⟨⟨v3, c3⟩, d3⟩ := HT.out (j * 15 + 3) (by omega) (by omega)
      obtain ⟨⟨v4, c4⟩, d4⟩ := HT.out (j * 15 + 4) (by omega) (by omega)
      obtain ⟨⟨v5, c5⟩, d5⟩ := HT.out (j * 15 + 5) (by omega) (by omega)
      obtain ⟨⟨v6, c6⟩, d6⟩ := HT.out (j * 15 + 6) (by omega) (by omega)
      obtain ⟨⟨v7, c7⟩, d7⟩ := HT.out (j * 15 + 7) (by omega) (by omega)
      obtain ⟨⟨v8, c8⟩, d8⟩ := HT.out (j * 15 + 8) (by omega) (by omega)
      obtain ⟨⟨v9, c9⟩, d9⟩ := HT.out (j * 15 + 9) (by omega) (by omega)
      obtain ⟨⟨v10, c10⟩, d10⟩ := HT.out (j * 15 + 10) (by omega) (by omega)
      obtain ⟨⟨v11, c11⟩, d11⟩ := HT.out (j * 15 + 11) (by omega) (by omega)
      obtain ⟨⟨v12, c12⟩, d12⟩ := HT.out (j * 15 + 12) (by omega) (by omega)
      obtain ⟨⟨v13, c13⟩, d13⟩ := HT.out (j * 15 + 13) (by omega) (by omega)
      obtain ⟨⟨v14, c14⟩, d14⟩ := HT.out (j * 15 + 14) (by omega) (by omega)
      obtain ⟨⟨o0, o1, o2⟩, _⟩ := blk3 O6.out
      go_upto_region 8 with (refine wpList_load_row rfl 57 _ rfl gS rfl 57 _ (0, 0) _ S6.out Tryz.underlying57 rfl (by kernel_rfl) ?_)
      try rw [hS9]
      clear hS9 o0 o1 o2 c0 d0 c1 d1 c2 d2 c3 d3 c4 d4 c5 d5 c6 d6 c7 d7 c8 d8 c9 d9 c10 d10 c11 d11 c12 d12 c13 d13 c14 d14 Q6 X6 R6 O6 S6 K6 H6
      go_wp2_with (first | (refine wpList_load_row rfl 37 _ rfl (og) rfl 37 _ (0, 0) _ O7.out Tryz.underlying37 rfl (by kernel_rfl) ?_) | (refine wpList_store_row rfl 37 _ _ rfl (w.heap.size + 1 + 1) #[.slice iM nm ic, .int .i64 s, .slice (some ⟨ig, 0, none⟩) n iC] rfl rfl 37 _ R7.out (by kernel_rfl) rfl (by simp [Value.oneCell']) ?_))
      exact row_ret2 (r := w.heap.size + 1 + 1) (cs := #[.slice iM nm ic, .int .i64 s, .slice (some ⟨ig, 0, none⟩) n iC]) rfl rfl rfl (setRow_heap _ _ _ _ _ _ R7.out) Tryz.underlying37 rfl (by kernel_rfl) rfl ⟨(InnH.mk iM nm ic (some ⟨ig, 0, none⟩) n iC (ih.set j (SeatH.mk ⟨rst, rsh, rsd, rsp, ⟨⟨reu, res, reh, rea⟩, ren⟩, ⟨⟨rfu, rfs, rfh, rfa⟩, rfn⟩⟩ B ol.length bc))), by rw [HE9.out.2.1, HE9.out.2.2.2]; rfl, by rw [HE9.out.1, HE9.out.2.2.1]; exact (HP.out.heap (fun t e => setRow_other _ _ _ _ (by have := (HP.out.foot e).1; omega)) (Nat.le_of_eq (size_setRow _ _ _).symm)).mono (by omega), below_setRow K7.out (by omega) _⟩

end Go.Proofs.YtioogmeghmeelaaGreatDoor.Tx

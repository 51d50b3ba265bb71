/-
  What l15Copy of the model answers: an inn like it, in memory of the call's own. Conditions: at most 1048576 numbers in the memory, as many seats, and of each as many words.
-/
import Derived.Test.YtioogmeghmeelaaGreatRegionS
import Derived.Test.YtioogmeghmeelaaGreatRegionR
import Derived.Test.YtioogmeghmeelaaGreatInn2
import Derived.Test.YtioogmeghmeelaaGreatInn8
import Derived.Test.YtioogmeghmeelaaGreatMem4
namespace Go.Proofs.YtioogmeghmeelaaGreat.Tx
open Go.RowKit

theorem infoSeatE : ∃ (i : TypeInfo) (by' : Nat), Tryz.prog.info? 68 = some i ∧ i.zero = some (SeatV.val .zero none 0 0) ∧ i.size = 15 ∧ i.bytes = by' ∧ by' ≤ 400 := by
  obtain ⟨i, hi⟩ := Option.isSome_iff_exists.1 (show (Tryz.prog.info? 68).isSome = true by kernel_rfl)
  have h1 : (Tryz.prog.info? 68).map (fun i => (i.zero, i.size)) = some (some (SeatV.val .zero none 0 0), 15) := by kernel_rfl
  have h2 : ((Tryz.prog.info? 68).map (fun i => decide (i.bytes ≤ 400))) = some true := by kernel_rfl
  rw [hi] at h1 h2
  simp only [Option.map_some, Option.some.injEq, Prod.mk.injEq, decide_eq_true_eq] at h1 h2
  exact ⟨i, i.bytes, hi, h1.1, h1.2, rfl, h2⟩
set_option maxRecDepth 100000 in
set_option maxHeartbeats 32000000 in
theorem l15Copy_any (M : Option Addr) (nm cm : Nat) (zs : List Int) (s : Int) (A : Option Addr) (n cap : Nat) (ss : List SeatL) (w : World) (h : InnO w w.heap.size M nm A n zs ss) (hMz : M = none → cm = 0) (hnm : nm ≤ 1048576) (hn : n ≤ 1048576) (hl : ∀ q ∈ ss, q.l.length ≤ 1048576) :
    Calls Tryz.prog 15 #[.agg #[.slice M nm cm, .int .i64 s, .slice A n cap]] w fun e w' => ∃ i : InnH, e = .returned (i.val s) ∧ i.mn = nm ∧ i.n = n ∧ HeldI w' w.heap.size i zs ss ∧ Below w.heap.size w w' := by
  obtain ⟨i0, by0, hi, hz0, hz1, hz2, hby⟩ := infoSeatE
  have E := Lib.hid h
  have HL := Lib.hid hl
  have hlen := h.seats.len
  clear h hl
  obtain ⟨W0, hW0⟩ : ∃ W, (w.alloc (.cells #[.slice M nm cm, .int .i64 s, .slice A n cap] 32)).alloc (.cells #[.slice none 0 0, .int .i64 0, .slice none 0 0] 32) = W := ⟨_, rfl⟩
  have K0 : Hid (Below w.heap.size w W0) := by rw [← hW0]; exact ((Below.refl _ w).alloc (Nat.le_refl _) _).alloc (by simp; try omega) _
  have Q0 : Hid (W0.heap[w.heap.size]? = some (.cells #[.slice M nm cm, .int .i64 s, .slice A n cap] 32)) := by rw [← hW0]; exact heap2a w _ _
  have R0 : Hid (W0.heap[w.heap.size + 1]? = some (.cells #[.slice none 0 0, .int .i64 0, .slice none 0 0] 32)) := by rw [← hW0]; exact heap2b w _ _
  have zW0 : W0.heap.size = w.heap.size + 2 := by rw [← hW0]; simp
  have E0 := Lib.hid (E.out.below K0.out)
  go_enter Tryz.func15, Tryz.ntmps15
  obtain ⟨⟨a0, a1, a2⟩, _⟩ := blk3 Q0.out
  go_wp2_with fail
  clear a0 a1 a2
  clear hW0
  refine (l8Copy_any M nm cm zs s _ (E0.out.mem.mono K0.out.size) hMz hnm).mono ?_
  rintro e w1 ⟨gm, cb, rfl, hM, hb⟩
  have MM := Lib.hid hM
  have lm := hM.lt (g := gm) rfl
  clear hM
  have Q1 := Lib.hid (blk_on hb Q0.out)
  have R1 := Lib.hid (blk_on hb R0.out)
  have K1 := Lib.hid (K0.out.trans (hb.mono K0.out.size))
  clear hb Q0 R0 K0
  obtain ⟨V2, hV2⟩ : ∃ V, w1.alloc (.cells #[.slice none 0 0, .int .i64 0, .slice none 0 0] 32) = V := ⟨_, rfl⟩
  have ltV2Q : w.heap.size < w1.heap.size := blk_in Q1.out
  have ltV2R : w.heap.size + 1 < w1.heap.size := blk_in R1.out
  have Q2 : Hid (V2.heap[w.heap.size]? = some (.cells #[.slice M nm cm, .int .i64 s, .slice A n cap] 32)) := by rw [← hV2]; exact alloc_blk Q1.out
  have R2 : Hid (V2.heap[w.heap.size + 1]? = some (.cells #[.slice none 0 0, .int .i64 0, .slice none 0 0] 32)) := by rw [← hV2]; exact alloc_blk R1.out
  have hb : Below w1.heap.size w1 V2 := by rw [← hV2]; exact (Below.refl _ w1).alloc (Nat.le_refl _) _
  have K2 := Lib.hid (K1.out.trans (hb.mono K1.out.size))
  have O2 : Hid (V2.heap[w1.heap.size]? = some (.cells #[.slice none 0 0, .int .i64 0, .slice none 0 0] 32)) := by rw [← hV2]; exact heap1 w1 _
  have lbV2 : w.heap.size ≤ w1.heap.size := K1.out.size
  clear hb Q1 R1 K1
  have Q3 : Hid ((V2.setRow w1.heap.size #[.slice (some ⟨gm, 0, none⟩) nm cb, .int .i64 s, .slice none 0 0]).heap[w.heap.size]? = some (.cells #[.slice M nm cm, .int .i64 s, .slice A n cap] 32)) := (setRow_other _ _ _ _ (by omega)).trans Q2.out
  have R3 : Hid ((V2.setRow w1.heap.size #[.slice (some ⟨gm, 0, none⟩) nm cb, .int .i64 s, .slice none 0 0]).heap[w.heap.size + 1]? = some (.cells #[.slice none 0 0, .int .i64 0, .slice none 0 0] 32)) := (setRow_other _ _ _ _ (by omega)).trans R2.out
  have O3 : Hid ((V2.setRow w1.heap.size #[.slice (some ⟨gm, 0, none⟩) nm cb, .int .i64 s, .slice none 0 0]).heap[w1.heap.size]? = some (.cells #[.slice (some ⟨gm, 0, none⟩) nm cb, .int .i64 s, .slice none 0 0] 32)) := setRow_heap _ _ _ _ _ _ O2.out
  have K3 : Hid (Below w.heap.size w (V2.setRow w1.heap.size #[.slice (some ⟨gm, 0, none⟩) nm cb, .int .i64 s, .slice none 0 0])) := below_setRow K2.out (by omega) _
  have zV : V2.heap.size = w1.heap.size + 1 := by rw [← hV2]; simp
  have zS := size_setRow V2 w1.heap.size #[.slice (some ⟨gm, 0, none⟩) nm cb, .int .i64 s, .slice none 0 0]
  have M2 : Hid (OwnN (V2.setRow w1.heap.size #[.slice (some ⟨gm, 0, none⟩) nm cb, .int .i64 s, .slice none 0 0]) W0.heap.size zs (some ⟨gm, 0, none⟩) nm cb) := (by have h1 : OwnN V2 W0.heap.size zs (some ⟨gm, 0, none⟩) nm cb := (by rw [← hV2]; exact MM.out.alloc _); exact h1.heap (fun k e => setRow_other _ _ _ _ (by have e1 : gm = k := Option.some.inj e; omega)))
  clear MM
  go_wp2_with (refine wpList_store_row rfl 32 _ _ rfl (w1.heap.size) #[.slice (some ⟨gm, 0, none⟩) nm cb, .int .i64 s, .slice none 0 0] rfl rfl 32 _ O2.out (by kernel_rfl) rfl (by simp [Value.oneCell']) ?_)
  clear hV2 Q2 R2 O2 K2
  generalize V2.setRow w1.heap.size #[.slice (some ⟨gm, 0, none⟩) nm cb, .int .i64 s, .slice none 0 0] = S3 at Q3 R3 O3 K3 zS M2 ⊢
  obtain ⟨og, hog⟩ : ∃ x, w1.heap.size = x := ⟨_, rfl⟩
  have OO := O3
  have QQ := Q3
  have RR := R3
  have KK := K3
  rw [hog] at OO zV lm ⊢
  have zz : S3.heap.size = og + 1 := by omega
  have hog2 : w.heap.size + 2 ≤ og := by omega
  clear hog O3 Q3 R3 K3 zS zV E0
  obtain ⟨L0, hL0⟩ : ∃ x, S3 = x := ⟨_, rfl⟩
  rw [hL0] at OO QQ RR KK M2 zz ⊢
  clear hL0
  go_loopw [4] (fun i wr => ∃ (k : Nat) (A' : Option Addr) (c' : Nat) (hs : List SeatH), k ≤ n ∧ i = .int .i64 k ∧ Hid (wr.heap[og]? = some (.cells #[.slice (some ⟨gm, 0, none⟩) nm cb, .int .i64 s, .slice A' k c'] 32)) ∧ Hid (RowS wr (og + 1) A' k c' hs (ss.take k)) ∧ Hid (Below og L0 wr) ∧ og + 1 ≤ wr.heap.size) (fun i _ => n - (intOf i).toNat)
  case atStart => exact ⟨0, none, 0, [], Nat.zero_le _, rfl, OO.out, by rw [List.take_zero]; exact rowS_nil _ _, Below.refl _ _, by omega⟩
  case round =>
    obtain ⟨k, A', c', hs, hk, rfl, hO, hR, hB, hzr⟩ := hrel
    have Q1 := Lib.hid ((hB.out.block _ (show w.heap.size < og by omega)).trans QQ.out)
    by_cases hlt : k < n
    · obtain ⟨b, off, ⟨⟨st, sh, sd, sp, ⟨⟨eu, es, eh, ea⟩, en⟩, ⟨⟨fu, fs, fh, fa⟩, fn⟩⟩, xA, xn, xc⟩, q, rfl, hb, hq, e1, g1, E1, xz⟩ := E.out.seats.at hlt
      have KW : Below w.heap.size w wr := KK.out.trans (hB.out.mono (by omega))
      have hql := HL.out q (List.mem_of_getElem? hq)
      have hxl : q.l.length = xn := E1.1
      have e2 : ⟨st, sh, sd, sp, ⟨⟨eu, es, eh, ea⟩, en⟩, ⟨⟨fu, fs, fh, fa⟩, fn⟩⟩ = q.s := e1
      have hk0 : (0 : Int) ≤ (k : Int) := by omega
      have hkn : (k : Int) < (n : Int) := by omega
      have hfoot : ∀ t, blkA A' = some t → og + 1 ≤ t ∧ t < wr.heap.size := fun t e => hR.out.foot (.inl e)
      have hbA : ∀ t, t ≤ og → blkA A' ≠ some t := fun t ht e => by have := (hfoot t e).1; omega
      have HG : Hid (∀ x : In (plainEnv wr (og :: (blkA A').toList)), _) := fun x => seat_at (g1.heap ((x.hc.block b (by omega) (by simp; exact ⟨by omega, hbA b (by omega)⟩)).trans (KW.block b hb)))
      have HQ : Hid (∀ x : In (plainEnv wr (og :: (blkA A').toList)), _) := fun x => (blk3 (x.block Q1.out (by simp; exact ⟨by omega, hbA _ (by omega)⟩))).1
      have HE := Lib.hid E1
      have HQ2 := Lib.hid hq
      have HX := Lib.hid e2
      clear e1 e2 g1 E1 hq
      obtain ⟨n0, n1, n2⟩ := (blk3 Q1.out).1
      go_wp2
      have hS0 : Stays (plainEnv wr (og :: (blkA A').toList)) (fun w' => w'.heap[og]? = some (.cells #[.slice (some ⟨gm, 0, none⟩) nm cb, .int .i64 s, .slice A' k c'] 32) ∧ w'.ownsRow (og + 1) 68 15 (.slice A' k c') k (hs.flatMap Cells.cells)) := stays_and (stays_blk (E := plainEnv wr (og :: (blkA A').toList)) (.inr (by simp)) _) (fun w1 w2 hc h b => own_heap h fun t e => b.block t (h.lt t (by rw [← e]; cases A' <;> rfl)).2)
      refine wp_region_own (W := wr) (og :: (blkA A').toList) (fun w' => w'.heap[og]? = some (.cells #[.slice (some ⟨gm, 0, none⟩) nm cb, .int .i64 s, .slice A' k c'] 32) ∧ w'.ownsRow (og + 1) 68 15 (.slice A' k c') k (hs.flatMap Cells.cells)) hS0 ⟨hO.out, hR.out.own⟩ [0, 5, 0, 0, 0, 0, 0, 1, 2, 3, 0, 3] (by kernel_rfl) (by kernel_rfl) (by kernel_rfl) ?_
      refine wpO_quiet 1 rfl (by kernel_rfl) ?_
      simp only [List.take, List.drop]
      repeat (go_big_quiet_step (fail))
      refine wpQuiet_nil ?_
      refine wpO_cell5 (g := og) (i := 2) (cs := #[.slice (some ⟨gm, 0, none⟩) nm cb, .int .i64 s, .slice A' k c']) (.slice A' k c') rfl hS0 (fun w' hw hF => hF.1) rfl (fun w' h => by simp [go_sem, h]) ?_
      simp only [Act.put, List.setIfInBounds_toArray, List.set_cons_succ, List.set_cons_zero]
      have fg := HG.out
      have fq := HQ.out
      try dsimp only at fg
      refine wpO_quiet 5 rfl (by kernel_rfl) ?_
      simp only [List.take, List.drop]
      repeat (go_big_quiet_step (fail))
      refine wpQuiet_nil ?_
      refine wpO_callx (f := 34) (args := #[.agg #[.int .i64 st, .int .i64 sh, .int .i64 sd, .int .i64 sp, .int .i64 eu, .int .i64 es, .int .i64 eh, .int .i64 ea, .int .i64 en, .int .i64 fu, .int .i64 fs, .int .i64 fh, .int .i64 fa, .int .i64 fn, .slice xA xn xc]]) (α := Nat × Nat) (fun z => .agg #[.int .i64 st, .int .i64 sh, .int .i64 sd, .int .i64 sp, .int .i64 eu, .int .i64 es, .int .i64 eh, .int .i64 ea, .int .i64 en, .int .i64 fu, .int .i64 fs, .int .i64 fh, .int .i64 fa, .int .i64 fn, .slice (some ⟨z.1, 0, none⟩) xn z.2]) (fun z => [z.1]) (fun z w' => MadeE w' wr.heap.size 107 q.l z.1 z.2) rfl (fun w' => by simp [go_sem]) (fun z w1 w2 hw h b => h.below b) (fun G => ?_) (fun w' hw hF => ?_) (fun z hz => ?_)
      · obtain ⟨g, hg, hn⟩ := fresh_above wr.heap.size G
        exact ⟨(g, 0), fun k hk => by simp at hk; subst hk; exact ⟨hg, hn⟩⟩
      · have hz' := hw.size
        have KW' : Below w.heap.size w w' := KW.trans ⟨hw.os, hw.tape, hw.output, hw.size, fun t ht => hw.block t (by omega) (by simp; exact ⟨by omega, hbA t (by omega)⟩)⟩
        exact (l14Copy_any ⟨st, sh, sd, sp, ⟨⟨eu, es, eh, ea⟩, en⟩, ⟨⟨fu, fs, fh, fa⟩, fn⟩⟩ xA xn xc q.l w' ((HE.out.below KW').mono KW'.size) xz (by omega)).mono fun e w'' ⟨g, cb, he, m, b1⟩ => ⟨(g, cb), he, m.mono hz', b1, fun k hk => by simp at hk; subst hk; exact m.base⟩
      obtain ⟨lg, lc⟩ := z
      have hlg : wr.heap.size ≤ lg := (hz lg (by simp)).1
      dsimp only
      simp only [Act.put, List.setIfInBounds_toArray, List.set_cons_succ, List.set_cons_zero]
      refine wpO_row (.cells #[.int .i64 st, .int .i64 sh, .int .i64 sd, .int .i64 sp, .int .i64 eu, .int .i64 es, .int .i64 eh, .int .i64 ea, .int .i64 en, .int .i64 fu, .int .i64 fs, .int .i64 fh, .int .i64 fa, .int .i64 fn, .slice (some ⟨lg, 0, none⟩) xn lc] 68) 1 rfl (fun w' => by simp [go_sem]) fun ge mge hge => ?_
      simp only [Act.put, List.setIfInBounds_toArray, List.set_cons_succ, List.set_cons_zero]
      refine wpO_appendA (fun w' => w'.heap[og]? = some (.cells #[.slice (some ⟨gm, 0, none⟩) nm cb, .int .i64 s, .slice A' k c'] 32) ∧ MadeE w' wr.heap.size 107 q.l lg lc) _ _ 30 rfl rfl (og + 1) 68 i0 (SeatV.val .zero none 0 0) 15 by0 Tryz.underlying30 hi hz0 hz1 hz2 rfl (by decide) k (hs.flatMap Cells.cells) A' c' rfl (fun t e => .inr (by simp; exact .inr e)) ⟨ge, 0, none⟩ 1 1 ([(SeatH.mk ⟨st, sh, sd, sp, ⟨⟨eu, es, eh, ea⟩, en⟩, ⟨⟨fu, fs, fh, fa⟩, fn⟩⟩ (some ⟨lg, 0, none⟩) xn lc)].flatMap Cells.cells) rfl rfl flat_one (by omega) (by unfold maxLen; omega) (Nat.le_trans (Nat.mul_le_mul (by omega : k + 1 ≤ 1048577) hby) (by decide)) hzr (fun w' hw hF => ⟨⟨hF.1.1.1, hF.1.2⟩, hF.1.1.2, fun j u hu => by rw [Go.WideShapes.add_plain, Nat.zero_add, blk_cell hF.2, ← Array.getElem?_toList]; rw [List.flatMap_cons, List.flatMap_nil, List.append_nil] at hu; exact hu⟩) (stays_and (stays_blk (E := plainEnv wr (og :: (blkA A').toList)) (.inr (by simp)) _) (fun w1 w2 hw h b => h.below b)) (fun w1 w2 hk h => ⟨(hk og (blk_in h.1) (hbA og (Nat.le_refl _))).trans h.1, h.2.heap (hk lg h.2.base.2 (fun e => by have := (hfoot lg e).2; omega))⟩) (fun gb' cb' hgb' hgm => ?_)
      simp only [Act.put, List.setIfInBounds_toArray, List.set_cons_succ, List.set_cons_zero]
      refine wpO_quiet 1 rfl (by kernel_rfl) ?_
      simp only [List.take, List.drop]
      repeat (go_big_quiet_step (fail))
      refine wpQuiet_nil ?_
      refine wpO_put (g := og) (i := 2) (t := 32) (cs := #[.slice (some ⟨gm, 0, none⟩) nm cb, .int .i64 s, .slice A' k c']) (fun w' => MadeE w' wr.heap.size 107 q.l lg lc ∧ w'.ownsRow (og + 1) 68 15 (.slice (some ⟨gb', 0, none⟩) (k + 1) cb') (k + 1) (hs.flatMap Cells.cells ++ [(SeatH.mk ⟨st, sh, sd, sp, ⟨⟨eu, es, eh, ea⟩, en⟩, ⟨⟨fu, fs, fh, fa⟩, fn⟩⟩ (some ⟨lg, 0, none⟩) xn lc)].flatMap Cells.cells)) (.slice (some ⟨gb', 0, none⟩) (k + 1) cb') rfl (.inr (by simp)) (fun w' h => by have h1 := blk_cell h 2; have h2 := blk_frozen h 2; simp [go_sem, h1, h2]) (fun w' h => ⟨⟨h.1.2, h.2⟩, h.1.1⟩) (stays_and (fun w1 w2 hw h b => h.below b) (fun w1 w2 hc h b => own_heap h fun t e => b.block t (h.lt t e).2)) (fun w1 w2 hw h => ⟨h.1.heap (hw lg h.1.base.2 (by omega)), own_heap h.2 fun t e => hw t (h.2.lt t e).2 (by have e1 : gb' = t := Option.some.inj e; omega)⟩) ?_
      simp only [Act.put]
      refine wpO_nil ?_
      rintro w6 b6 ⟨⟨h1, h2⟩, h3⟩
      have HO := Lib.hid h3
      have hs6 := b6.size
      have HN : Hid (RowS w6 (og + 1) (some ⟨gb', 0, none⟩) (k + 1) cb' (hs ++ [SeatH.mk ⟨st, sh, sd, sp, ⟨⟨eu, es, eh, ea⟩, en⟩, ⟨⟨fu, fs, fh, fa⟩, fn⟩⟩ (some ⟨lg, 0, none⟩) xn lc]) (ss.take (k + 1))) := by
        have ht : ss.take (k + 1) = ss.take k ++ [q] := by rw [List.take_add_one, HQ2.out]; rfl
        show RowS _ _ _ _ _ _ _
        rw [ht]
        refine hR.out.next _ q HX.out (.inr ⟨lg, rfl, hxl.symm, h1⟩) hzr (fun j y hy t ht => b6.block t (hR.out.foot (.inr ⟨j, y, hy, ht⟩)).2 ?_) (by rw [List.flatMap_append]; exact h2)
        have h5 := (hR.out.foot (.inr ⟨j, y, hy, ht⟩)).1
        have h6 := hR.out.apart.front j y hy t ht
        simp
        exact ⟨by omega, h6⟩
      have HB6 : Hid (Below og L0 w6) := hB.out.trans ⟨b6.os, b6.tape, b6.output, b6.size, fun t ht => b6.block t (by omega) (by simp; exact ⟨by omega, hbA t (by omega)⟩)⟩
      clear h1 h2 h3 b6 fg fq HE HX HQ2 hS0
      go_wp2
      go_roundw
      case rel => exact ⟨k + 1, some ⟨gb', 0, none⟩, cb', _, by omega, by go_num, HO.out, HN.out, HB6.out, by omega⟩
      case measure => simp [intOf]; omega
    · obtain rfl : k = n := by omega
      have hlt' : ¬ (k : Int) < (k : Int) := by omega
      have R1 := Lib.hid ((hB.out.block _ (show w.heap.size + 1 < og by omega)).trans RR.out)
      have KW : Hid (Below w.heap.size w wr) := KK.out.trans (hB.out.mono (by omega))
      have HI : Hid (HeldI wr W0.heap.size ⟨some ⟨gm, 0, none⟩, nm, cb, A', k, c', hs⟩ zs ss) := ⟨M2.out.heap (fun t e => hB.out.block t (by have e1 : gm = t := Option.some.inj e; omega)), by
        have h9 := hR.out.held.mono (base' := W0.heap.size) (by omega)
        rw [List.take_of_length_le (by rw [hlen]; exact Nat.le_refl _)] at h9
        exact h9, fun t e1 e2 => by
        have e3 : gm = t := Option.some.inj e1
        have := (hR.out.foot e2).1
        omega⟩
      obtain ⟨n0, n1, n2⟩ := (blk3 Q1.out).1
      have hO2 := hO
      clear hR hO
      go_wp2_with (first | (refine wpList_load_row rfl 32 _ rfl og rfl 32 _ (0, 0) _ hO2.out Tryz.underlying32 rfl (by kernel_rfl) ?_) | (refine wpList_store_row rfl 32 _ _ rfl (w.heap.size + 1) #[.slice (some ⟨gm, 0, none⟩) nm cb, .int .i64 s, .slice A' k c'] rfl rfl 32 _ R1.out (by kernel_rfl) rfl (by simp [Value.oneCell']) ?_))
      exact row_ret (r := w.heap.size + 1) (cs := #[.slice (some ⟨gm, 0, none⟩) nm cb, .int .i64 s, .slice A' k c']) rfl rfl (setRow_heap _ _ _ _ _ _ R1.out) Tryz.underlying32 rfl (by kernel_rfl) rfl ⟨⟨some ⟨gm, 0, none⟩, nm, cb, A', k, c', hs⟩, rfl, rfl, rfl, (HI.out.heap (fun t e => setRow_other _ _ _ _ (by have := (HI.out.foot e).1; omega)) (Nat.le_of_eq (size_setRow _ _ _).symm)).mono (by omega), below_setRow KW.out (by omega) _⟩

end Go.Proofs.YtioogmeghmeelaaGreat.Tx

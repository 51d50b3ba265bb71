/-
  What InnOk of the program answers. Conditions: at most 1048576 seats, and as many draws in the memory.
-/
import Derived.Test.YtioogmeghmeelaaInn2
import Derived.Test.YtioogmeghmeelaaInn4
import Derived.Test.YtioogmeghmeelaaImpl14o
import Derived.Test.YtioogmeghmeelaaImpl8c
namespace Go.Proofs.Ytioogmeghmeelaa.Tx
open Go.RowKit

/-- The right ones of a list of seats. -/
def okS (ss : List SeatL) : List SeatL := ss.filter fun q => seatOkB q.s q.l.length
theorem okS_le (ss : List SeatL) : (okS ss).length ≤ ss.length := List.length_filter_le _ _
theorem okS_step {ss : List SeatL} {k : Nat} {q : SeatL} (h : ss[k]? = some q) : (okS (ss.take (k + 1))).length = (okS (ss.take k)).length + if seatOkB q.s q.l.length = true then 1 else 0 := by
  rw [okS, okS, List.take_add_one, h, Option.toList_some, List.filter_append, List.length_append]
  cases e : seatOkB q.s q.l.length <;> simp [e]
theorem okS_all (ss : List SeatL) : (((okS ss).length : Int) == (ss.length : Int)) = seatsOkB ss := by
  rw [seatsOkB, Bool.eq_iff_iff, List.all_eq_true, beq_iff_eq]
  exact ⟨fun e => List.length_filter_eq_length_iff.1 (by rw [okS] at e; omega), fun e => by rw [okS, List.length_filter_eq_length_iff.2 e]⟩
theorem infoSeatP : ∃ (i : TypeInfo) (by' : Nat), Try.prog.info? 46 = some i ∧ i.zero = some (SeatV.val .zero none 0 0) ∧ i.size = 15 ∧ i.bytes = by' ∧ by' ≤ 400 := by
  obtain ⟨i, hi⟩ := Option.isSome_iff_exists.1 (show (Try.prog.info? 46).isSome = true by kernel_rfl)
  have h1 : (Try.prog.info? 46).map (fun i => (i.zero, i.size)) = some (some (SeatV.val .zero none 0 0), 15) := by kernel_rfl
  have h2 : ((Try.prog.info? 46).map (fun i => decide (i.bytes ≤ 400))) = some true := by kernel_rfl
  rw [hi] at h1 h2
  simp only [Option.map_some, Option.some.injEq, Prod.mk.injEq, decide_eq_true_eq] at h1 h2
  exact ⟨i, i.bytes, hi, h1.1, h1.2, rfl, h2⟩

set_option maxRecDepth 100000 in
set_option maxHeartbeats 16000000 in
theorem seatsWhere_any (A : Option Addr) (n cap : Nat) (ss : List SeatL) (w : World) (h : SeatsO w w.heap.size A n ss) (hn : n ≤ 1048576) :
    Calls Try.prog 32 #[.slice A n cap, .func (.func 17) #[] #[]] w fun e w' => (∃ (B : Option Addr) (c : Nat), e = .returned (.slice B (okS ss).length c)) ∧ Below w.heap.size w w' := by
  obtain ⟨i0, by0, hi, hz0, hz1, hz2, hby⟩ := infoSeatP
  have hlen := h.len
  have E := Lib.hid h
  clear h
  go_enter Try.func32, Try.ntmps32
  go_wp2
  go_loopw [5, 11] (fun v i wr => ∃ (k gb cb : Nat) (out : List SeatH), k ≤ n ∧ i = .int .i64 k ∧ v = .slice (some ⟨gb, 0, none⟩) out.length cb ∧ out.length = (okS (ss.take k)).length ∧ MadeE wr w.heap.size 46 out gb cb ∧ Below w.heap.size w wr) (fun _ i _ => n - (intOf i).toNat)
  case atStart => exact ⟨0, w.heap.size, 0, [], Nat.zero_le _, rfl, rfl, by simp [okS], madeG_nil (heap1 w _) (Nat.le_refl _), (Below.refl _ w).alloc (Nat.le_refl _) _⟩
  case round =>
    obtain ⟨k, gb, cb, out, hk, rfl, rfl, hO, hM, hB⟩ := hrel
    have holen : out.length ≤ n := by
      have h1 := okS_le (ss.take k)
      have h2 : (ss.take k).length ≤ k := by rw [List.length_take]; omega
      omega
    have HM := Lib.hid hM
    have HB := Lib.hid hB
    have HO := Lib.hid hO
    have hgb := hM.base
    have hsB := hB.size
    clear hM hB hO
    by_cases hlt : k < n
    · obtain ⟨b, off, ⟨⟨st, sh, sd, sp, ⟨⟨eu, es, eh, ea⟩, en⟩, ⟨⟨fu, fs, fh, fa⟩, fn⟩⟩, xA, xn, xc⟩, q, rfl, hb, hq, e1, g1, E1, _⟩ := E.out.at hlt
      obtain ⟨c0, c1, c2, c3, c4, c5, c6, c7, c8, c9, c10, c11, c12, c13, c14⟩ := seat_at (g1.heap (HB.out.block b hb))
      have hxl : q.l.length = xn := E1.1
      have e2 : ⟨st, sh, sd, sp, ⟨⟨eu, es, eh, ea⟩, en⟩, ⟨⟨fu, fs, fh, fa⟩, fn⟩⟩ = q.s := e1
      dsimp only at c0 c1 c2 c3 c4 c5 c6 c7 c8 c9 c10 c11 c12 c13 c14
      have hk0 : (0 : Int) ≤ (k : Int) := by omega
      have hkn : (k : Int) < (n : Int) := by omega
      have HS := Lib.hid (okS_step hq)
      obtain ⟨xp, hxp⟩ : ∃ z, seatOkB q.s q.l.length = z := ⟨_, rfl⟩
      rw [hxp] at HS
      have cE : Hid (∀ w' : World, Calls Try.prog 17 #[.agg #[.int .i64 st, .int .i64 sh, .int .i64 sd, .int .i64 sp, .int .i64 eu, .int .i64 es, .int .i64 eh, .int .i64 ea, .int .i64 en, .int .i64 fu, .int .i64 fs, .int .i64 fh, .int .i64 fa, .int .i64 fn, .slice xA xn xc]] w' fun e w'' => e = .returned (.bool xp) ∧ Below w'.heap.size w' w'') := fun w' => by
        have h1 := SeatOk_impl0 ⟨st, sh, sd, sp, ⟨⟨eu, es, eh, ea⟩, en⟩, ⟨⟨fu, fs, fh, fa⟩, fn⟩⟩ xA xn xc w'
        rw [show seatOkB ⟨st, sh, sd, sp, ⟨⟨eu, es, eh, ea⟩, en⟩, ⟨⟨fu, fs, fh, fa⟩, fn⟩⟩ xn = xp by rw [e2, ← hxl, hxp]] at h1
        exact h1
      clear hq g1 E1 e1 e2 hxl hxp
      obtain ⟨W1, hW1⟩ : ∃ V, wr.alloc (.cells #[.int .i64 st, .int .i64 sh, .int .i64 sd, .int .i64 sp, .int .i64 eu, .int .i64 es, .int .i64 eh, .int .i64 ea, .int .i64 en, .int .i64 fu, .int .i64 fs, .int .i64 fh, .int .i64 fa, .int .i64 fn, .slice xA xn xc] 46) = V := ⟨_, rfl⟩
      have HM1 : Hid (MadeE W1 w.heap.size 46 out gb cb) := by rw [← hW1]; exact HM.out.below ((Below.refl _ wr).alloc (Nat.le_refl _) _)
      have HB1 : Hid (Below w.heap.size w W1) := by rw [← hW1]; exact HB.out.alloc HB.out.size _
      have X1 : Hid (W1.heap[wr.heap.size]? = some (.cells #[.int .i64 st, .int .i64 sh, .int .i64 sd, .int .i64 sp, .int .i64 eu, .int .i64 es, .int .i64 eh, .int .i64 ea, .int .i64 en, .int .i64 fu, .int .i64 fs, .int .i64 fh, .int .i64 fa, .int .i64 fn, .slice xA xn xc] 46)) := by rw [← hW1]; exact heap1 wr _
      go_wp2_with (refine wpList_load_row rfl 46 _ rfl (wr.heap.size) rfl 46 _ (0, 0) _ X1.out Try.underlying46 rfl (by kernel_rfl) ?_)
      clear c0 c1 c2 c3 c4 c5 c6 c7 c8 c9 c10 c11 c12 c13 c14
      refine (cE.out _).mono ?_
      rintro e w2 ⟨rfl, b2⟩
      have HM2 := Lib.hid (HM1.out.below b2)
      have HB2 := Lib.hid (HB1.out.trans (b2.mono HB1.out.size))
      have X2 := Lib.hid (blk_on b2 X1.out)
      have hs2 := b2.size
      have hs1 : wr.heap.size < W1.heap.size := blk_in X1.out
      clear b2 HM1 HB1 X1 HM HB
      try clear hW1
      cases xp with
      | false =>
        go_wp2
        go_roundw
        case rel => exact ⟨k + 1, gb, cb, out, by omega, by go_num, rfl, by rw [HO.out, HS.out]; rfl, HM2.out, HB2.out⟩
        case measure => simp [intOf]; omega
      | true =>
        obtain ⟨⟨a0, a1, a2, a3, a4, a5, a6, a7, a8, a9, a10, a11, a12, a13, a14⟩, _⟩ := blk15 X2.out
        go_wp2_with (at_builtin; refine wpList_append_own _ rfl _ _ 50 rfl w.heap.size 46 i0 (SeatV.val .zero none 0 0) 15 by0 Try.underlying50 hi hz0 hz1 hz2 rfl (by decide) _ out.length (out.flatMap Cells.cells) rfl (HM2.out.own.alloc _) ⟨w2.heap.size, 0, none⟩ 1 1 ([(SeatH.mk ⟨st, sh, sd, sp, ⟨⟨eu, es, eh, ea⟩, en⟩, ⟨⟨fu, fs, fh, fa⟩, fn⟩⟩ xA xn xc)].flatMap Cells.cells) rfl rfl (cells_new w2 ([.int .i64 st, .int .i64 sh, .int .i64 sd, .int .i64 sp, .int .i64 eu, .int .i64 es, .int .i64 eh, .int .i64 ea, .int .i64 en, .int .i64 fu, .int .i64 fs, .int .i64 fh, .int .i64 fa, .int .i64 fn, .slice xA xn xc]) _) flat_one (by unfold maxLen; omega) (Nat.le_trans (Nat.mul_le_mul (by omega : out.length + 1 ≤ 1048577) hby) (by decide)) (by simp; omega) ?_; intro v' w3 hown' hgrow hiff; have h9 := made_app (l := out) (l2 := [(SeatH.mk ⟨st, sh, sd, sp, ⟨⟨eu, es, eh, ea⟩, en⟩, ⟨⟨fu, fs, fh, fa⟩, fn⟩⟩ xA xn xc)]) (n := out.length) (m := 1) (gb := gb) (cb := cb) hown' rfl rfl hiff; obtain ⟨gb', cb', rfl, hM'⟩ := h9; have HM' := Lib.hid hM'; have HGR := Lib.hid hgrow; clear hown' hgrow hM' hiff)
        go_roundw
        case rel => exact ⟨k + 1, gb', cb', out ++ [(SeatH.mk ⟨st, sh, sd, sp, ⟨⟨eu, es, eh, ea⟩, en⟩, ⟨⟨fu, fs, fh, fa⟩, fn⟩⟩ xA xn xc)], by omega, by go_num, by first | rfl | simp, by rw [List.length_append, HO.out, HS.out]; rfl, HM'.out, (HB2.out.alloc HB2.out.size _).grown HGR.out (by simp; omega) (by intro k' e; have e1 := Option.some.inj e; dsimp only at e1; omega)⟩
        case measure => simp [intOf]; omega
    · obtain rfl : k = n := by omega
      have hlt' : ¬ (k : Int) < (k : Int) := by omega
      have hR : out.length = (okS ss).length := by rw [HO.out, List.take_of_length_le (by rw [hlen]; omega)]
      rw [hR]
      go_wp2
      go_ret
      exact ⟨⟨_, _, rfl⟩, HB.out⟩

theorem seatsAll_any (A : Option Addr) (n cap : Nat) (ss : List SeatL) (w : World) (h : SeatsO w w.heap.size A n ss) (hn : n ≤ 1048576) :
    Calls Try.prog 16 #[.slice A n cap, .func (.func 17) #[] #[]] w fun e w' => e = .returned (.bool (seatsOkB ss)) ∧ Below w.heap.size w w' := by
  have cW := seatsWhere_any A n cap ss w h hn
  have he := okS_all ss
  rw [h.len] at he
  generalize (okS ss).length = m at cW he
  generalize seatsOkB ss = y at he ⊢
  clear h
  go_enter Try.func16, Try.ntmps16
  go_wp2_with fail
  refine cW.mono ?_
  rintro e w1 ⟨⟨B, c, rfl⟩, b⟩
  go_wp2
  go_ret
  exact ⟨rfl, b⟩

theorem innOk_prog (zs : List Int) (t : Int) (ss : List SeatL) : innOkB zs t ss = (memB zs t && (decide (ss.length ≤ 8) && seatsOkB ss)) := by
  rw [innOkB]
  generalize seatsOkB ss = a
  generalize memB zs t = b
  generalize decide (ss.length ≤ 8) = c
  cases a <;> cases b <;> cases c <;> rfl
set_option maxRecDepth 100000 in
set_option maxHeartbeats 16000000 in
theorem InnOk_impl0 (M : Option Addr) (nm cm : Nat) (zs : List Int) (s : Int) (A : Option Addr) (n cap : Nat) (ss : List SeatL) (w : World) (hM : Nums w w.heap.size M nm zs) (hA : SeatsO w w.heap.size A n ss) (hnm : nm ≤ 1048576) (hn : n ≤ 1048576) :
    Calls Try.prog 7 #[.agg #[.slice M nm cm, .int .i64 s, .slice A n cap]] w fun e w' => e = .returned (.bool (innOkB zs s ss)) ∧ Below w.heap.size w w' := by
  have hd : decide ((n : Int) ≤ 8) = decide (ss.length ≤ 8) := by
    rw [hA.len]
    by_cases h8 : n ≤ 8
    · rw [decide_eq_true h8, decide_eq_true (by omega)]
    · rw [decide_eq_false h8, decide_eq_false (by omega)]
  have cM : Hid (∀ w' : World, Nums w' w'.heap.size M nm zs → Calls Try.prog 15 #[.agg #[.slice M nm cm, .int .i64 s]] w' fun e w'' => e = .returned (.bool (memB zs s)) ∧ Below w'.heap.size w' w'') := fun w' h' => MemoryOk_impl M nm cm zs s w' h' hnm
  have cA : Hid (∀ w' : World, SeatsO w' w'.heap.size A n ss → Calls Try.prog 16 #[.slice A n cap, .func (.func 17) #[] #[]] w' fun e w'' => e = .returned (.bool (seatsOkB ss)) ∧ Below w'.heap.size w' w'') := fun w' h' => seatsAll_any A n cap ss w' h' hn
  rw [innOk_prog]
  have HM := Lib.hid hM
  have HA := Lib.hid hA
  clear hM hA
  generalize memB zs s = y1 at cM ⊢
  generalize seatsOkB ss = y3 at cA ⊢
  generalize decide (ss.length ≤ 8) = y2 at hd ⊢
  obtain ⟨W0, hW0⟩ : ∃ W, w.alloc (.cells #[.slice M nm cm, .int .i64 s, .slice A n cap] 33) = W := ⟨_, rfl⟩
  have K0 : Hid (Below w.heap.size w W0) := by rw [← hW0]; exact (Below.refl _ w).alloc (Nat.le_refl _) _
  have Q0 : Hid (W0.heap[w.heap.size]? = some (.cells #[.slice M nm cm, .int .i64 s, .slice A n cap] 33)) := by rw [← hW0]; exact heap1 w _
  go_enter Try.func7, Try.ntmps7
  obtain ⟨⟨a0, a1, a2⟩, _⟩ := blk3 Q0.out
  go_wp2_with fail
  clear a0 a1 a2
  clear hW0
  refine (cM.out _ ((HM.out.below K0.out).mono K0.out.size)).mono ?_
  rintro e w1 ⟨rfl, hb⟩
  have Q1 := Lib.hid (blk_on hb Q0.out)
  have K1 := Lib.hid (K0.out.trans (hb.mono K0.out.size))
  clear hb Q0 K0
  obtain ⟨⟨a0, a1, a2⟩, _⟩ := blk3 Q1.out
  cases y1 with
  | false =>
    go_wp2
    go_ret
    exact ⟨rfl, K1.out⟩
  | true =>
    cases y2 with
    | false =>
      go_wp2
      go_ret
      exact ⟨rfl, K1.out⟩
    | true =>
      go_wp2_with fail
      clear a0 a1 a2
      refine (cA.out _ ((HA.out.below K1.out).mono K1.out.size)).mono ?_
      rintro e w2 ⟨rfl, hb⟩
      have Q2 := Lib.hid (blk_on hb Q1.out)
      have K2 := Lib.hid (K1.out.trans (hb.mono K1.out.size))
      clear hb Q1 K1
      go_wp2
      go_ret
      exact ⟨rfl, K2.out⟩
theorem InnOk_impl (M : Option Addr) (nm cm : Nat) (zs : List Int) (s : Int) (A : Option Addr) (n cap : Nat) (ss : List SeatL) (w : World) (h : InnO w w.heap.size M nm A n zs ss) (_ : M = none → cm = 0) (_ : AllI64 zs) (hnm : nm ≤ 1048576) (hn : n ≤ 1048576) (_ : ∀ q ∈ ss, q.l.length ≤ 1048576) : Calls Try.prog 7 #[.agg #[.slice M nm cm, .int .i64 s, .slice A n cap]] w fun e w' => e = .returned (.bool (innOkB zs s ss)) ∧ Below w.heap.size w w' := InnOk_impl0 M nm cm zs s A n cap ss w h.mem h.seats hnm hn

end Go.Proofs.Ytioogmeghmeelaa.Tx

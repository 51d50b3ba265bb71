/-
  What eqSeatS and szSeatS of the laws say. Conditions: at most 1048576 seats, and of each at most 1048576 words; each text at most 2^63 - 1 bytes.
  What toInn, szInn and eqInn of the laws do. Conditions: at most 1048576 numbers in the memory, as many seats, and of each as many words.
-/
import Derived.Test.YtioogmeghmeelaaGreatInn0
import Derived.Test.YtioogmeghmeelaaGreatSeat3
import Derived.Test.YtioogmeghmeelaaGreatRegionL
import Derived.Test.YtioogmeghmeelaaGreatInn2
import Derived.Test.YtioogmeghmeelaaGreatInn4
namespace Go.Proofs.YtioogmeghmeelaaGreat.Tx
open Go.RowKit

set_option maxRecDepth 100000 in
set_option maxHeartbeats 16000000 in
theorem eqSeatS_same (A B : Option Addr) (n ca cb : Nat) (ss : List SeatL) (w : World) (hA : SeatsO w w.heap.size A n ss) (hB : SeatsO w w.heap.size B n ss) (hn : n ≤ 1048576) (hl : ∀ q ∈ ss, q.l.length ≤ 1048576) :
    Calls Tryz.prog 23 #[.slice A n ca, .slice B n cb] w fun e w' => e = .returned (.bool true) ∧ Below w.heap.size w w' := by
  have HA := Lib.hid hA
  have HB := Lib.hid hB
  have HL := Lib.hid hl
  clear hA hB hl
  go_enter Tryz.func23, Tryz.ntmps23
  go_wp2
  go_loopw [5] (fun i wr => ∃ k : Nat, k ≤ n ∧ i = .int .i64 k ∧ Hid (Below w.heap.size w wr)) (fun i _ => n - (intOf i).toNat)
  case atStart => exact ⟨0, Nat.zero_le _, rfl, Below.refl _ _⟩
  case round =>
    obtain ⟨k, hk, rfl, hW⟩ := hrel
    by_cases hlt : k < n
    · obtain ⟨b, off, ⟨⟨st, sh, sd, sp, ⟨⟨eu, es, eh, ea⟩, en⟩, ⟨⟨fu, fs, fh, fa⟩, fn⟩⟩, xA, xn, xc⟩, q, rfl, hb, hq, e1, g1, E1, _⟩ := HA.out.at hlt
      obtain ⟨b', off', ⟨s2, yA, yn, yc⟩, q', rfl, hb', hq', e2, g2, E2, _⟩ := HB.out.at hlt
      obtain rfl : q = q' := Option.some.inj (hq.symm.trans hq')
      obtain rfl : ⟨st, sh, sd, sp, ⟨⟨eu, es, eh, ea⟩, en⟩, ⟨⟨fu, fs, fh, fa⟩, fn⟩⟩ = s2 := e1.trans e2.symm
      have hql := HL.out q (List.mem_of_getElem? hq)
      have hn1 : q.l.length = xn := E1.1
      have hn2 : q.l.length = yn := E2.1
      subst hn1
      obtain rfl : yn = q.l.length := hn2.symm
      have f1 : ∀ z : Later w, _ := fun z => seat_at (g1.heap (z.bel.block b hb))
      have f2 : ∀ z : Later w, _ := fun z => seat_at (g2.heap (z.bel.block b' hb'))
      dsimp only at f1 f2
      have cE : Hid (∀ w' : World, Below w.heap.size w w' → Calls Tryz.prog 45 #[.agg #[.int .i64 st, .int .i64 sh, .int .i64 sd, .int .i64 sp, .int .i64 eu, .int .i64 es, .int .i64 eh, .int .i64 ea, .int .i64 en, .int .i64 fu, .int .i64 fs, .int .i64 fh, .int .i64 fa, .int .i64 fn, .slice xA q.l.length xc], .agg #[.int .i64 st, .int .i64 sh, .int .i64 sd, .int .i64 sp, .int .i64 eu, .int .i64 es, .int .i64 eh, .int .i64 ea, .int .i64 en, .int .i64 fu, .int .i64 fs, .int .i64 fh, .int .i64 fa, .int .i64 fn, .slice yA q.l.length yc]] w' fun e w'' => e = .returned (.bool true) ∧ Below w'.heap.size w' w'') := fun w' hb => eqSeat_same ⟨st, sh, sd, sp, ⟨⟨eu, es, eh, ea⟩, en⟩, ⟨⟨fu, fs, fh, fa⟩, fn⟩⟩ xA yA q.l.length xc yc q.l w' ((E1.below hb).mono hb.size) ((E2.below hb).mono hb.size) hql
      have hk0 : (0 : Int) ≤ (k : Int) := by omega
      have hkn : (k : Int) < (n : Int) := by omega
      clear hq hq' e1 e2 g1 g2 E1 E2 hql
      go_wp2
      refine wp_region_later (W := w) hW.out (by kernel_rfl) (by kernel_rfl) ?_
      repeat (go_big_quiet_step ((go_at_call 45; exact calls_later (cE.out _ (Later.bel _)))))
      refine wpQuiet_nil ?_
      rintro _ ⟨⟨w', hw'⟩, rfl⟩
      have Hw' := Lib.hid hw'
      clear hw' f1 f2 cE
      go_wp2
      go_roundw
      case rel => exact ⟨k + 1, by omega, by go_num, Hw'.out⟩
      case measure => simp [intOf]; omega
    · obtain rfl : k = n := by omega
      have hlt' : ¬ (k : Int) < (k : Int) := by omega
      go_wp2
      go_ret
      exact ⟨rfl, hW.out⟩

/-- What szSeatS answers: what is left; where that is not below 0, the lists are not long. -/
def SzSeats (ss : List SeatL) (w : World) (e : Ending) (w' : World) : Prop := ∃ l : Int, e = .returned (.int .i64 l) ∧ l ≤ 1048576 ∧ (0 ≤ l → ss.length ≤ 1048576 ∧ ∀ q ∈ ss, q.l.length ≤ 1048576) ∧ Below w.heap.size w w'
set_option maxRecDepth 100000 in
set_option maxHeartbeats 16000000 in
theorem szSeatS_any (A : Option Addr) (n cap : Nat) (ss : List SeatL) (left : Int) (w : World) (hA : SeatsO w w.heap.size A n ss) (hn : n ≤ 9223372036854775807) (hl : ∀ q ∈ ss, q.l.length ≤ 9223372036854775807 ∧ ∀ t ∈ q.l, t.t.size ≤ 9223372036854775807) (h0 : 0 ≤ left) (h1 : left ≤ 1048576) :
    Calls Tryz.prog 12 #[.slice A n cap, .int .i64 left] w (SzSeats ss w) := by
  have HA := Lib.hid hA
  have HL := Lib.hid hl
  have hlen := hA.len
  clear hA hl
  by_cases hneg : left - (n : Int) < 0
  · go_enter Tryz.func12, Tryz.ntmps12
    go_wp2
    go_ret
    exact ⟨-1, rfl, by omega, fun h => absurd h (by omega), Below.refl _ _⟩
  go_enter Tryz.func12, Tryz.ntmps12
  go_wp2
  go_loopw [1, 5] (fun v i wr => ∃ (k : Nat) (L : Int), k ≤ n ∧ i = .int .i64 k ∧ v = .int .i64 L ∧ 0 ≤ L ∧ L ≤ 1048576 ∧ (∀ (j : Nat) (q : SeatL), j < k → ss[j]? = some q → q.l.length ≤ 1048576) ∧ Hid (Below w.heap.size w wr)) (fun _ i _ => n - (intOf i).toNat)
  case atStart => exact ⟨0, left - n, Nat.zero_le _, rfl, rfl, by omega, by omega, fun j _ h => absurd h (by omega), Below.refl _ _⟩
  case round =>
    obtain ⟨k, L, hk, rfl, rfl, hL0, hL1, hq1, hW⟩ := hrel
    have HQ := Lib.hid hq1
    clear hq1
    by_cases hlt : k < n
    · obtain ⟨b, off, ⟨⟨st, sh, sd, sp, ⟨⟨eu, es, eh, ea⟩, en⟩, ⟨⟨fu, fs, fh, fa⟩, fn⟩⟩, xA, xn, xc⟩, q, rfl, hb, hq, e1, g1, E1, _⟩ := HA.out.at hlt
      obtain ⟨c0, c1, c2, c3, c4, c5, c6, c7, c8, c9, c10, c11, c12, c13, c14⟩ := seat_at (g1.heap (hW.out.block b hb))
      dsimp only at c0 c1 c2 c3 c4 c5 c6 c7 c8 c9 c10 c11 c12 c13 c14
      have hxl : q.l.length = xn := E1.1
      obtain ⟨hql, hqt⟩ := HL.out q (List.mem_of_getElem? hq)
      have cS : Calls Tryz.prog 29 #[.agg #[.int .i64 st, .int .i64 sh, .int .i64 sd, .int .i64 sp, .int .i64 eu, .int .i64 es, .int .i64 eh, .int .i64 ea, .int .i64 en, .int .i64 fu, .int .i64 fs, .int .i64 fh, .int .i64 fa, .int .i64 fn, .slice xA xn xc], .int .i64 L] wr (SzOutE xn wr) := szSeat_any ⟨st, sh, sd, sp, ⟨⟨eu, es, eh, ea⟩, en⟩, ⟨⟨fu, fs, fh, fa⟩, fn⟩⟩ xA xn xc q.l L wr ((E1.below hW.out).mono hW.out.size) (by rw [← hxl]; exact hql) hqt hL0 hL1
      have HX := Lib.hid hxl
      clear hxl
      have HK := Lib.hid hq
      have hk0 : (0 : Int) ≤ (k : Int) := by omega
      have hkn : (k : Int) < (n : Int) := by omega
      clear hq e1 g1 E1 hql hqt
      go_wp2_with fail
      clear c0 c1 c2 c3 c4 c5 c6 c7 c8 c9 c10 c11 c12 c13 c14
      refine cS.mono ?_
      rintro e w1 ⟨M, rfl, hM1, hM2, hb1⟩
      have HW := Lib.hid (hW.out.trans (hb1.mono hW.out.size))
      clear hb1 hW cS
      by_cases hM : M < 0
      · go_wp2
        go_ret
        exact ⟨-1, rfl, by omega, fun h => absurd h (by omega), HW.out⟩
      · go_wp2
        go_roundw
        case rel => exact ⟨k + 1, M, by omega, by go_num, rfl, by omega, hM1, fun j z hj hz => by
          by_cases hjk : j = k
          · subst hjk
            obtain rfl : q = z := Option.some.inj (HK.out.symm.trans hz)
            rw [HX.out]
            exact hM2 (by omega)
          · exact HQ.out j z (by omega) hz, HW.out⟩
        case measure => simp [intOf]; omega
    · obtain rfl : k = n := by omega
      have hlt' : ¬ (k : Int) < (k : Int) := by omega
      go_wp2
      go_ret
      exact ⟨L, rfl, hL1, fun _ => ⟨by omega, fun q hq => by
        obtain ⟨j, hj, e⟩ := List.getElem_of_mem hq
        exact HQ.out j q (by omega) (by rw [← e]; exact List.getElem?_eq_getElem hj)⟩, hW.out⟩

end Go.Proofs.YtioogmeghmeelaaGreat.Tx
namespace Go.Proofs.YtioogmeghmeelaaGreat.Tx
open Go.RowKit

set_option maxRecDepth 100000 in
set_option maxHeartbeats 8000000 in
theorem toInn_any (M : Option Addr) (nm cm : Nat) (zs : List Int) (s : Int) (A : Option Addr) (n cap : Nat) (ss : List SeatL) (w : World) (h : InnO w w.heap.size M nm A n zs ss) (hnm : nm ≤ 1048576) (hn : n ≤ 1048576) (hl : ∀ q ∈ ss, q.l.length ≤ 1048576) :
    Calls Tryz.prog 6 #[.agg #[.slice M nm cm, .int .i64 s, .slice A n cap]] w fun e w' => ∃ i : InnH, e = .returned (i.val s) ∧ i.mn = nm ∧ i.n = n ∧ HeldI w' w.heap.size i zs ss ∧ Below w.heap.size w w' := by
  obtain ⟨W0, hW0⟩ : ∃ W, ((w.alloc (.cells #[.slice M nm cm, .int .i64 s, .slice A n cap] 27)).alloc (.cells #[.slice none 0 0, .int .i64 0, .slice none 0 0] 32)).alloc (.cells #[.slice none 0 0, .int .i64 0, .slice none 0 0] 32) = W := ⟨_, rfl⟩
  have K0 : Hid (Below w.heap.size w W0) := by rw [← hW0]; exact (((Below.refl _ w).alloc (Nat.le_refl _) _).alloc (by simp; try omega) _).alloc (by simp; try omega) _
  have Q0 : Hid (W0.heap[w.heap.size]? = some (.cells #[.slice M nm cm, .int .i64 s, .slice A n cap] 27)) := by rw [← hW0]; exact heap3a w _ _ _
  have R0 : Hid (W0.heap[w.heap.size + 1]? = some (.cells #[.slice none 0 0, .int .i64 0, .slice none 0 0] 32)) := by rw [← hW0]; exact heap3b w _ _ _
  have O0 : Hid (W0.heap[w.heap.size + 1 + 1]? = some (.cells #[.slice none 0 0, .int .i64 0, .slice none 0 0] 32)) := by rw [← hW0]; exact heap3c w _ _ _
  have zW0 : W0.heap.size = w.heap.size + 3 := by rw [← hW0]; simp
  have E0 : Hid (InnO W0 w.heap.size M nm A n zs ss) := Lib.hid (h.below K0.out)
  have hlen := h.seats.len
  clear h
  go_enter Tryz.func6, Tryz.ntmps6
  obtain ⟨⟨a0, a1, a2⟩, _⟩ := blk3 Q0.out
  go_wp2_with fail
  clear a0 a1 a2
  clear hW0
  refine (toMemory_any M nm cm zs s _ (E0.out.mem.mono K0.out.size) hnm).mono ?_
  rintro e w1 ⟨gm, rfl, hM, hb⟩
  have MM := Lib.hid hM
  have lm := hM.lt (g := gm) rfl
  have lo : w.heap.size + 1 + 1 < W0.heap.size := by omega
  clear hM
  have Q1 := Lib.hid (blk_on hb Q0.out)
  have R1 := Lib.hid (blk_on hb R0.out)
  have O1 := Lib.hid (blk_on hb O0.out)
  have E1 := Lib.hid (E0.out.below (hb.mono K0.out.size))
  have K1 := Lib.hid (K0.out.trans (hb.mono K0.out.size))
  clear hb Q0 R0 O0 K0 E0
  obtain ⟨⟨a0, a1, a2⟩, _⟩ := blk3 Q1.out
  obtain ⟨⟨b0, b1, b2⟩, bz0, bz1, bz2⟩ := blk3 O1.out
  obtain ⟨S2, qS2⟩ : ∃ W, setAll w1 (w.heap.size + 1 + 1) 0 [.slice (some ⟨gm, 0, none⟩) nm nm, .int .i64 s] = W := ⟨_, rfl⟩
  have hS2 : ((w1.setCell ⟨w.heap.size + 1 + 1, 0, none⟩ (.slice (some ⟨gm, 0, none⟩) nm nm)).setCell ⟨w.heap.size + 1 + 1, 1, none⟩ (.int .i64 s)) = S2 := qS2
  have Q2 : Hid (S2.heap[w.heap.size]? = some (.cells #[.slice M nm cm, .int .i64 s, .slice A n cap] 27)) := by rw [← qS2]; exact setAll_away (by omega) _ _ Q1.out
  have R2 : Hid (S2.heap[w.heap.size + 1]? = some (.cells #[.slice none 0 0, .int .i64 0, .slice none 0 0] 32)) := by rw [← qS2]; exact setAll_away (by omega) _ _ R1.out
  have O2 : Hid (S2.heap[w.heap.size + 1 + 1]? = some (.cells #[.slice (some ⟨gm, 0, none⟩) nm nm, .int .i64 s, .slice none 0 0] 32)) := by
    rw [← qS2]
    refine (setAll_blk (w := w1) (g := (w.heap.size + 1 + 1)) [.slice (some ⟨gm, 0, none⟩) nm nm, .int .i64 s] 0 O1.out).trans ?_
    refine congrArg (fun z => some (Obj.cells z 32 (0, 0))) (Array.toList_inj.1 ?_)
    rw [overA_toList _ _ _ (by simp)]
    rfl
  have K2 : Hid (Below w.heap.size w S2) := by rw [← qS2]; exact setAll_below (g := (w.heap.size + 1 + 1)) (by omega) [.slice (some ⟨gm, 0, none⟩) nm nm, .int .i64 s] 0 K1.out
  have zS2 : w1.heap.size = S2.heap.size := by rw [← qS2]; exact (setAll_size [.slice (some ⟨gm, 0, none⟩) nm nm, .int .i64 s] 0 _).symm
  have E2 := Lib.hid (E1.out.below (show Below w.heap.size w1 S2 by rw [← qS2]; exact setAll_below (g := (w.heap.size + 1 + 1)) (by omega) [.slice (some ⟨gm, 0, none⟩) nm nm, .int .i64 s] 0 (Below.refl _ _)))
  clear qS2 Q1 R1 O1 K1 E1
  have MN : Hid (OwnN S2 W0.heap.size zs (some ⟨gm, 0, none⟩) nm nm) := by rw [← hS2]; exact MM.out.heap (fun k e => setAll_off (g := w.heap.size + 1 + 1) (by have := Option.some.inj e; have h9 : gm = k := this; omega) [.slice (some ⟨gm, 0, none⟩) nm nm, .int .i64 s] 0)
  obtain ⟨⟨c0, c1, c2⟩, _⟩ := blk3 Q2.out
  go_wp2_with fail
  clear a0 a1 a2
  clear b0 b1 b2 bz0 bz1 bz2
  clear c0 c1 c2
  clear hS2 MM
  have hgm : gm < S2.heap.size := (MN.out.lt (g := gm) rfl).2
  have hk := K2.out.size
  refine (toSeatS_any A n cap ss _ (E2.out.seats.mono K2.out.size) hn hl).mono ?_
  rintro e w3 ⟨gs, rfl, hC, hb⟩
  obtain ⟨gz, hgz⟩ : ∃ x, S2.heap.size = x := ⟨_, rfl⟩
  have hH := hC.held (base := gz) (by omega)
  rw [hgz] at hH hgm ⊢
  have lw : gz < w3.heap.size := by rw [← hgz]; exact hC.lt
  have HI : Hid (HeldI w3 W0.heap.size ⟨some ⟨gm, 0, none⟩, nm, nm, some ⟨gz, 0, none⟩, n, n, List.zipWith handle ss gs⟩ zs ss) := ⟨MN.out.on hb, by rw [hlen] at hH; exact hH.mono (by omega), fun k e1 e2 => by
    have h1 := (hH.foot e2).1
    have h2 : gm = k := Option.some.inj e1
    omega⟩
  clear hC hH MN
  have Q3 := Lib.hid (blk_on hb Q2.out)
  have R3 := Lib.hid (blk_on hb R2.out)
  have O3 := Lib.hid (blk_on hb O2.out)
  have E3 := Lib.hid (E2.out.below (hb.mono K2.out.size))
  have K3 := Lib.hid (K2.out.trans (hb.mono K2.out.size))
  clear hb Q2 R2 O2 K2 E2
  clear E3 hgz
  obtain ⟨⟨b0, b1, b2⟩, bz0, bz1, bz2⟩ := blk3 O3.out
  obtain ⟨S4, qS4⟩ : ∃ W, setAll w3 (w.heap.size + 1 + 1) 2 [.slice (some ⟨gz, 0, none⟩) n n] = W := ⟨_, rfl⟩
  have hS4 : (w3.setCell ⟨w.heap.size + 1 + 1, 2, none⟩ (.slice (some ⟨gz, 0, none⟩) n n)) = S4 := qS4
  have Q4 : Hid (S4.heap[w.heap.size]? = some (.cells #[.slice M nm cm, .int .i64 s, .slice A n cap] 27)) := by rw [← qS4]; exact setAll_away (by omega) _ _ Q3.out
  have R4 : Hid (S4.heap[w.heap.size + 1]? = some (.cells #[.slice none 0 0, .int .i64 0, .slice none 0 0] 32)) := by rw [← qS4]; exact setAll_away (by omega) _ _ R3.out
  have O4 : Hid (S4.heap[w.heap.size + 1 + 1]? = some (.cells #[.slice (some ⟨gm, 0, none⟩) nm nm, .int .i64 s, .slice (some ⟨gz, 0, none⟩) n n] 32)) := by
    rw [← qS4]
    refine (setAll_blk (w := w3) (g := (w.heap.size + 1 + 1)) [.slice (some ⟨gz, 0, none⟩) n n] 2 O3.out).trans ?_
    refine congrArg (fun z => some (Obj.cells z 32 (0, 0))) (Array.toList_inj.1 ?_)
    rw [overA_toList _ _ _ (by simp)]
    rfl
  have K4 : Hid (Below w.heap.size w S4) := by rw [← qS4]; exact setAll_below (g := (w.heap.size + 1 + 1)) (by omega) [.slice (some ⟨gz, 0, none⟩) n n] 2 K3.out
  have zS4 : w3.heap.size = S4.heap.size := by rw [← qS4]; exact (setAll_size [.slice (some ⟨gz, 0, none⟩) n n] 2 _).symm
  clear qS4 Q3 R3 O3 K3
  have HJ : Hid (HeldI S4 W0.heap.size ⟨some ⟨gm, 0, none⟩, nm, nm, some ⟨gz, 0, none⟩, n, n, List.zipWith handle ss gs⟩ zs ss) := by rw [← hS4]; exact HI.out.heap (fun k e => setAll_off (w := w3) (g := w.heap.size + 1 + 1) (by have := (HI.out.foot e).1; omega) [.slice (some ⟨gz, 0, none⟩) n n] 2) (Nat.le_of_eq (setAll_size (g := w.heap.size + 1 + 1) [.slice (some ⟨gz, 0, none⟩) n n] 2 w3).symm)
  clear HI
  have OF := O4
  have RF := R4
  go_wp2_with (first | (refine wpList_store_row rfl 32 _ _ rfl (w.heap.size + 1) #[.slice (some ⟨gm, 0, none⟩) nm nm, .int .i64 s, .slice (some ⟨gz, 0, none⟩) n n] rfl rfl 32 _ R4.out (by kernel_rfl) rfl (by simp [Value.oneCell']) ?_) | (refine wpList_load_row rfl 32 _ rfl (w.heap.size + 1 + 1) rfl 32 _ (0, 0) _ O4.out Tryz.underlying32 rfl (by kernel_rfl) ?_))
  exact row_ret (r := w.heap.size + 1) (cs := #[.slice (some ⟨gm, 0, none⟩) nm nm, .int .i64 s, .slice (some ⟨gz, 0, none⟩) n n]) rfl rfl (setRow_heap _ _ _ _ _ _ RF.out) Tryz.underlying32 rfl (by kernel_rfl) rfl ⟨⟨some ⟨gm, 0, none⟩, nm, nm, some ⟨gz, 0, none⟩, n, n, List.zipWith handle ss gs⟩, rfl, rfl, rfl, (HJ.out.heap (fun k e => setRow_other _ _ _ _ (by have := (HJ.out.foot e).1; omega)) (Nat.le_of_eq (size_setRow _ _ _).symm)).mono (by omega), below_setRow K4.out (by omega) _⟩

/-- What szInn answers: what is left; where that is not below 0, the lists are not long. -/
def SzInn (nm : Nat) (ss : List SeatL) (w : World) (e : Ending) (w' : World) : Prop := ∃ l : Int, e = .returned (.int .i64 l) ∧ l ≤ 1048576 ∧ (0 ≤ l → nm ≤ 1048576 ∧ ss.length ≤ 1048576 ∧ ∀ q ∈ ss, q.l.length ≤ 1048576) ∧ Below w.heap.size w w'
set_option maxRecDepth 100000 in
set_option maxHeartbeats 8000000 in
theorem szInn_any (M : Option Addr) (nm cm : Nat) (zs : List Int) (s : Int) (A : Option Addr) (n cap : Nat) (ss : List SeatL) (w : World) (h' : InnO w w.heap.size M nm A n zs ss) (hnm : nm ≤ 9223372036854775807) (hn : n ≤ 9223372036854775807) (hs : ∀ q ∈ ss, q.l.length ≤ 9223372036854775807 ∧ ∀ t ∈ q.l, t.t.size ≤ 9223372036854775807) :
    Calls Tryz.prog 4 #[.agg #[.slice M nm cm, .int .i64 s, .slice A n cap], .int .i64 1048576] w (SzInn nm ss w) := by
  have h := Lib.hid h'
  clear h'
  obtain ⟨W0, hW0⟩ : ∃ W, w.alloc (.cells #[.slice M nm cm, .int .i64 s, .slice A n cap] 27) = W := ⟨_, rfl⟩
  have K0 : Hid (Below w.heap.size w W0) := by rw [← hW0]; exact (Below.refl _ w).alloc (Nat.le_refl _) _
  have Q0 : Hid (W0.heap[w.heap.size]? = some (.cells #[.slice M nm cm, .int .i64 s, .slice A n cap] 27)) := by rw [← hW0]; exact heap1 w _
  go_enter Tryz.func4, Tryz.ntmps4
  obtain ⟨⟨a0, a1, a2⟩, _⟩ := blk3 Q0.out
  go_wp2_with fail
  clear a0 a1 a2
  clear hW0
  have cz := szMemory_any M nm cm s W0 hnm
  by_cases hbig : 1048576 < nm
  ·
    rw [if_pos hbig] at cz
    refine (cz).mono ?_
    rintro e w1 ⟨rfl, hb⟩
    have Q1 := Lib.hid (blk_on hb Q0.out)
    have K1 := Lib.hid (K0.out.trans (hb.mono K0.out.size))
    clear hb Q0 K0
    go_wp2_with fail
    go_ret
    exact ⟨-1, rfl, by omega, fun h => absurd h (by omega), K1.out⟩
  ·
    rw [if_neg hbig] at cz
    have hz0 : ¬ (1048576 - (nm : Int)) < 0 := by omega
    obtain ⟨lf, hlf⟩ : ∃ x : Int, 1048576 - (nm : Int) = x := ⟨_, rfl⟩
    rw [hlf] at cz hz0
    refine (cz).mono ?_
    rintro e w1 ⟨rfl, hb⟩
    clear cz
    have Q1 := Lib.hid (blk_on hb Q0.out)
    have K1 := Lib.hid (K0.out.trans (hb.mono K0.out.size))
    clear hb Q0 K0
    obtain ⟨⟨a0, a1, a2⟩, _⟩ := blk3 Q1.out
    go_wp2_with fail
    clear a0 a1 a2
    refine (szSeatS_any A n cap ss lf _ ((h.out.seats.below K1.out).mono K1.out.size) hn hs (by omega) (by omega)).mono ?_
    rintro e w2 ⟨L, rfl, hL1, hL2, hb⟩
    have Q2 := Lib.hid (blk_on hb Q1.out)
    have K2 := Lib.hid (K1.out.trans (hb.mono K1.out.size))
    clear hb Q1 K1
    by_cases hL : L < 0
    ·
      go_wp2_with fail
      go_ret
      exact ⟨-1, rfl, by omega, fun h => absurd h (by omega), K2.out⟩
    ·
      go_wp2_with fail
      go_ret
      exact ⟨L, rfl, hL1, fun h => ⟨by omega, hL2 h⟩, K2.out⟩

set_option maxRecDepth 100000 in
set_option maxHeartbeats 8000000 in
theorem eqInn_same (M M2 : Option Addr) (nm cm cm2 : Nat) (zs : List Int) (s : Int) (A A2 : Option Addr) (n cap cap2 : Nat) (ss : List SeatL) (w : World) (hA' : InnO w w.heap.size M nm A n zs ss) (hB' : InnO w w.heap.size M2 nm A2 n zs ss) (hnm : nm ≤ 1048576) (hn : n ≤ 1048576) (hl : ∀ q ∈ ss, q.l.length ≤ 1048576) :
    Calls Tryz.prog 8 #[.agg #[.slice M nm cm, .int .i64 s, .slice A n cap], .agg #[.slice M2 nm cm2, .int .i64 s, .slice A2 n cap2]] w fun e w' => e = .returned (.bool true) ∧ Below w.heap.size w w' := by
  have hA := Lib.hid hA'
  have hB := Lib.hid hB'
  clear hA' hB'
  obtain ⟨W0, hW0⟩ : ∃ W, (w.alloc (.cells #[.slice M nm cm, .int .i64 s, .slice A n cap] 32)).alloc (.cells #[.slice M2 nm cm2, .int .i64 s, .slice A2 n cap2] 32) = W := ⟨_, rfl⟩
  have K0 : Hid (Below w.heap.size w W0) := by rw [← hW0]; exact ((Below.refl _ w).alloc (Nat.le_refl _) _).alloc (by simp; try omega) _
  have P0 : Hid (W0.heap[w.heap.size]? = some (.cells #[.slice M nm cm, .int .i64 s, .slice A n cap] 32)) := by rw [← hW0]; exact heap2a w _ _
  have Q0 : Hid (W0.heap[w.heap.size + 1]? = some (.cells #[.slice M2 nm cm2, .int .i64 s, .slice A2 n cap2] 32)) := by rw [← hW0]; exact heap2b w _ _
  go_enter Tryz.func8, Tryz.ntmps8
  obtain ⟨⟨a0, a1, a2⟩, _⟩ := blk3 P0.out
  obtain ⟨⟨b0, b1, b2⟩, _⟩ := blk3 Q0.out
  go_wp2_with fail
  clear a0 a1 a2
  clear b0 b1 b2
  clear hW0
  refine (eqMemory_same M M2 nm cm cm2 zs s _ ((hA.out.mem.below K0.out).mono K0.out.size) ((hB.out.mem.below K0.out).mono K0.out.size) hnm).mono ?_
  rintro e w1 ⟨rfl, hb⟩
  have P1 := Lib.hid (blk_on hb P0.out)
  have Q1 := Lib.hid (blk_on hb Q0.out)
  have K1 := Lib.hid (K0.out.trans (hb.mono K0.out.size))
  clear hb P0 Q0 K0
  obtain ⟨⟨a0, a1, a2⟩, _⟩ := blk3 P1.out
  obtain ⟨⟨b0, b1, b2⟩, _⟩ := blk3 Q1.out
  go_wp2_with fail
  clear a0 a1 a2
  clear b0 b1 b2
  refine (eqSeatS_same A A2 n cap cap2 ss _ ((hA.out.seats.below K1.out).mono K1.out.size) ((hB.out.seats.below K1.out).mono K1.out.size) hn hl).mono ?_
  rintro e w2 ⟨rfl, hb⟩
  have P2 := Lib.hid (blk_on hb P1.out)
  have Q2 := Lib.hid (blk_on hb Q1.out)
  have K2 := Lib.hid (K1.out.trans (hb.mono K1.out.size))
  clear hb P1 Q1 K1
  go_wp2
  go_ret
  exact ⟨rfl, K2.out⟩

end Go.Proofs.YtioogmeghmeelaaGreat.Tx

/-
  What eqSeatS and szSeatS of the laws say. Conditions: at most 1048576 seats, and of each at most 1048576 words; each text at most 2^63 - 1 bytes.
-/
import Derived.Test.YtioogmeghmeelaaInn0
import Derived.Test.YtioogmeghmeelaaSeat3
import Derived.Test.YtioogmeghmeelaaRegionL
namespace Go.Proofs.Ytioogmeghmeelaa.Tx
open Go.RowKit

set_option maxRecDepth 100000 in
set_option maxHeartbeats 16000000 in
theorem eqSeatS_same (A B : Option Addr) (n ca cb : Nat) (ss : List SeatL) (w : World) (hA : SeatsO w w.heap.size A n ss) (hB : SeatsO w w.heap.size B n ss) (hn : n ≤ 1048576) (hl : ∀ q ∈ ss, q.l.length ≤ 1048576) :
    Calls Try.prog 19 #[.slice A n ca, .slice B n cb] w fun e w' => e = .returned (.bool true) ∧ Below w.heap.size w w' := by
  have HA := Lib.hid hA
  have HB := Lib.hid hB
  have HL := Lib.hid hl
  clear hA hB hl
  go_enter Try.func19, Try.ntmps19
  go_wp2
  go_loopw [5] (fun i wr => ∃ k : Nat, k ≤ n ∧ i = .int .i64 k ∧ Hid (Below w.heap.size w wr)) (fun i _ => n - (intOf i).toNat)
  case atStart => exact ⟨0, Nat.zero_le _, rfl, Below.refl _ _⟩
  case round =>
    obtain ⟨k, hk, rfl, hW⟩ := hrel
    by_cases hlt : k < n
    · obtain ⟨b, off, ⟨⟨st, sh, sd, sp, ⟨⟨eu, es, eh, ea⟩, en⟩, ⟨⟨fu, fs, fh, fa⟩, fn⟩⟩, xA, xn, xc⟩, q, rfl, hb, hq, e1, g1, E1, _⟩ := HA.out.at hlt
      obtain ⟨b', off', ⟨s2, yA, yn, yc⟩, q', rfl, hb', hq', e2, g2, E2, _⟩ := HB.out.at hlt
      obtain rfl : q = q' := Option.some.inj (hq.symm.trans hq')
      obtain rfl : ⟨st, sh, sd, sp, ⟨⟨eu, es, eh, ea⟩, en⟩, ⟨⟨fu, fs, fh, fa⟩, fn⟩⟩ = s2 := e1.trans e2.symm
      have hql := HL.out q (List.mem_of_getElem? hq)
      have hn1 : q.l.length = xn := E1.1
      have hn2 : q.l.length = yn := E2.1
      subst hn1
      obtain rfl : yn = q.l.length := hn2.symm
      have f1 : ∀ z : Later w, _ := fun z => seat_at (g1.heap (z.bel.block b hb))
      have f2 : ∀ z : Later w, _ := fun z => seat_at (g2.heap (z.bel.block b' hb'))
      dsimp only at f1 f2
      have cE : Hid (∀ w' : World, Below w.heap.size w w' → Calls Try.prog 39 #[.agg #[.int .i64 st, .int .i64 sh, .int .i64 sd, .int .i64 sp, .int .i64 eu, .int .i64 es, .int .i64 eh, .int .i64 ea, .int .i64 en, .int .i64 fu, .int .i64 fs, .int .i64 fh, .int .i64 fa, .int .i64 fn, .slice xA q.l.length xc], .agg #[.int .i64 st, .int .i64 sh, .int .i64 sd, .int .i64 sp, .int .i64 eu, .int .i64 es, .int .i64 eh, .int .i64 ea, .int .i64 en, .int .i64 fu, .int .i64 fs, .int .i64 fh, .int .i64 fa, .int .i64 fn, .slice yA q.l.length yc]] w' fun e w'' => e = .returned (.bool true) ∧ Below w'.heap.size w' w'') := fun w' hb => eqSeat_same ⟨st, sh, sd, sp, ⟨⟨eu, es, eh, ea⟩, en⟩, ⟨⟨fu, fs, fh, fa⟩, fn⟩⟩ xA yA q.l.length xc yc q.l w' ((E1.below hb).mono hb.size) ((E2.below hb).mono hb.size) hql
      have hk0 : (0 : Int) ≤ (k : Int) := by omega
      have hkn : (k : Int) < (n : Int) := by omega
      clear hq hq' e1 e2 g1 g2 E1 E2 hql
      go_wp2
      refine wp_region_later (W := w) hW.out (by kernel_rfl) (by kernel_rfl) ?_
      repeat (go_big_quiet_step ((go_at_call 39; exact calls_later (cE.out _ (Later.bel _)))))
      refine wpQuiet_nil ?_
      rintro _ ⟨⟨w', hw'⟩, rfl⟩
      have Hw' := Lib.hid hw'
      clear hw' f1 f2 cE
      go_wp2
      go_roundw
      case rel => exact ⟨k + 1, by omega, by go_num, Hw'.out⟩
      case measure => simp [intOf]; omega
    · obtain rfl : k = n := by omega
      have hlt' : ¬ (k : Int) < (k : Int) := by omega
      go_wp2
      go_ret
      exact ⟨rfl, hW.out⟩

/-- What szSeatS answers: what is left; where that is not below 0, the lists are not long. -/
def SzSeats (ss : List SeatL) (w : World) (e : Ending) (w' : World) : Prop := ∃ l : Int, e = .returned (.int .i64 l) ∧ l ≤ 1048576 ∧ (0 ≤ l → ss.length ≤ 1048576 ∧ ∀ q ∈ ss, q.l.length ≤ 1048576) ∧ Below w.heap.size w w'
set_option maxRecDepth 100000 in
set_option maxHeartbeats 16000000 in
theorem szSeatS_any (A : Option Addr) (n cap : Nat) (ss : List SeatL) (left : Int) (w : World) (hA : SeatsO w w.heap.size A n ss) (hn : n ≤ 9223372036854775807) (hl : ∀ q ∈ ss, q.l.length ≤ 9223372036854775807 ∧ ∀ t ∈ q.l, t.t.size ≤ 9223372036854775807) (h0 : 0 ≤ left) (h1 : left ≤ 1048576) :
    Calls Try.prog 10 #[.slice A n cap, .int .i64 left] w (SzSeats ss w) := by
  have HA := Lib.hid hA
  have HL := Lib.hid hl
  have hlen := hA.len
  clear hA hl
  by_cases hneg : left - (n : Int) < 0
  · go_enter Try.func10, Try.ntmps10
    go_wp2
    go_ret
    exact ⟨-1, rfl, by omega, fun h => absurd h (by omega), Below.refl _ _⟩
  go_enter Try.func10, Try.ntmps10
  go_wp2
  go_loopw [1, 5] (fun v i wr => ∃ (k : Nat) (L : Int), k ≤ n ∧ i = .int .i64 k ∧ v = .int .i64 L ∧ 0 ≤ L ∧ L ≤ 1048576 ∧ (∀ (j : Nat) (q : SeatL), j < k → ss[j]? = some q → q.l.length ≤ 1048576) ∧ Hid (Below w.heap.size w wr)) (fun _ i _ => n - (intOf i).toNat)
  case atStart => exact ⟨0, left - n, Nat.zero_le _, rfl, rfl, by omega, by omega, fun j _ h => absurd h (by omega), Below.refl _ _⟩
  case round =>
    obtain ⟨k, L, hk, rfl, rfl, hL0, hL1, hq1, hW⟩ := hrel
    have HQ := Lib.hid hq1
    clear hq1
    by_cases hlt : k < n
    · obtain ⟨b, off, ⟨⟨st, sh, sd, sp, ⟨⟨eu, es, eh, ea⟩, en⟩, ⟨⟨fu, fs, fh, fa⟩, fn⟩⟩, xA, xn, xc⟩, q, rfl, hb, hq, e1, g1, E1, _⟩ := HA.out.at hlt
      obtain ⟨c0, c1, c2, c3, c4, c5, c6, c7, c8, c9, c10, c11, c12, c13, c14⟩ := seat_at (g1.heap (hW.out.block b hb))
      dsimp only at c0 c1 c2 c3 c4 c5 c6 c7 c8 c9 c10 c11 c12 c13 c14
      have hxl : q.l.length = xn := E1.1
      obtain ⟨hql, hqt⟩ := HL.out q (List.mem_of_getElem? hq)
      have cS : Calls Try.prog 21 #[.agg #[.int .i64 st, .int .i64 sh, .int .i64 sd, .int .i64 sp, .int .i64 eu, .int .i64 es, .int .i64 eh, .int .i64 ea, .int .i64 en, .int .i64 fu, .int .i64 fs, .int .i64 fh, .int .i64 fa, .int .i64 fn, .slice xA xn xc], .int .i64 L] wr (SzOutE xn wr) := szSeat_any ⟨st, sh, sd, sp, ⟨⟨eu, es, eh, ea⟩, en⟩, ⟨⟨fu, fs, fh, fa⟩, fn⟩⟩ xA xn xc q.l L wr ((E1.below hW.out).mono hW.out.size) (by rw [← hxl]; exact hql) hqt hL0 hL1
      have HX := Lib.hid hxl
      clear hxl
      have HK := Lib.hid hq
      have hk0 : (0 : Int) ≤ (k : Int) := by omega
      have hkn : (k : Int) < (n : Int) := by omega
      clear hq e1 g1 E1 hql hqt
      go_wp2_with fail
      clear c0 c1 c2 c3 c4 c5 c6 c7 c8 c9 c10 c11 c12 c13 c14
      refine cS.mono ?_
      rintro e w1 ⟨M, rfl, hM1, hM2, hb1⟩
      have HW := Lib.hid (hW.out.trans (hb1.mono hW.out.size))
      clear hb1 hW cS
      by_cases hM : M < 0
      · go_wp2
        go_ret
        exact ⟨-1, rfl, by omega, fun h => absurd h (by omega), HW.out⟩
      · go_wp2
        go_roundw
        case rel => exact ⟨k + 1, M, by omega, by go_num, rfl, by omega, hM1, fun j z hj hz => by
          by_cases hjk : j = k
          · subst hjk
            obtain rfl : q = z := Option.some.inj (HK.out.symm.trans hz)
            rw [HX.out]
            exact hM2 (by omega)
          · exact HQ.out j z (by omega) hz, HW.out⟩
        case measure => simp [intOf]; omega
    · obtain rfl : k = n := by omega
      have hlt' : ¬ (k : Int) < (k : Int) := by omega
      go_wp2
      go_ret
      exact ⟨L, rfl, hL1, fun _ => ⟨by omega, fun q hq => by
        obtain ⟨j, hj, e⟩ := List.getElem_of_mem hq
        exact HQ.out j q (by omega) (by rw [← e]; exact List.getElem?_eq_getElem hj)⟩, hW.out⟩

end Go.Proofs.Ytioogmeghmeelaa.Tx

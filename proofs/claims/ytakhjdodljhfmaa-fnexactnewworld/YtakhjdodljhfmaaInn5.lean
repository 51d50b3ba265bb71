/-
  What eqSeatS and szSeatS of the laws say. Conditions: at most 1048576 seats, and of each at most 1048576 words; each text at most 2^63 - 1 bytes.
  What toInn, szInn and eqInn of the laws do. Conditions: at most 1048576 numbers in the memory, as many seats, and of each as many words.
-/
import Derived.Test.YtakhjdodljhfmaaInn0
import Derived.Test.YtakhjdodljhfmaaSeat3
import Derived.Test.YtakhjdodljhfmaaRegionL
import Derived.Test.YtakhjdodljhfmaaInn2
import Derived.Test.YtakhjdodljhfmaaInn4
namespace Go.Proofs.Ytakhjdodljhfmaa.Tx
open Go.RowKit

set_option maxRecDepth 100000 in
set_option maxHeartbeats 16000000 in
theorem eqSeatS_same (A B : Option Addr) (n ca cb : Nat) (ss : List SeatL) (w : World) (hA : SeatsO w w.heap.size A n ss) (hB : SeatsO w w.heap.size B n ss) (hn : n ≤ 1048576) (hl : ∀ q ∈ ss, q.l.length ≤ 1048576) :
    Calls Try.prog 45 #[.slice A n ca, .slice B n cb] w fun e w' => e = .returned (.bool true) ∧ Below w.heap.size w w' := by
  have HA := Lib.hid hA
  have HB := Lib.hid hB
  have HL := Lib.hid hl
  clear hA hB hl
  go_enter Try.func45, Try.ntmps45
  go_wp2
  go_loopw [5] (fun i wr => ∃ k : Nat, k ≤ n ∧ i = .int .i64 k ∧ Hid (Below w.heap.size w wr)) (fun i _ => n - (intOf i).toNat)
  case atStart => exact ⟨0, Nat.zero_le _, rfl, Below.refl _ _⟩
  case round =>
    obtain ⟨k, hk, rfl, hW⟩ := hrel
    by_cases hlt : k < n
    · obtain ⟨b, off, ⟨⟨st, sh, sd, sp, ⟨⟨eu, es, eh, ea⟩, en⟩, ⟨⟨fu, fs, fh, fa⟩, fn⟩⟩, xA, xn, xc⟩, q, rfl, hb, hq, e1, g1, E1, _⟩ := HA.out.at hlt
      obtain ⟨b', off', ⟨s2, yA, yn, yc⟩, q', rfl, hb', hq', e2, g2, E2, _⟩ := HB.out.at hlt
      obtain rfl : q = q' := Option.some.inj (hq.symm.trans hq')
      obtain rfl : ⟨st, sh, sd, sp, ⟨⟨eu, es, eh, ea⟩, en⟩, ⟨⟨fu, fs, fh, fa⟩, fn⟩⟩ = s2 := e1.trans e2.symm
      have hql := HL.out q (List.mem_of_getElem? hq)
      have hn1 : q.l.length = xn := E1.1
      have hn2 : q.l.length = yn := E2.1
      subst hn1
      obtain rfl : yn = q.l.length := hn2.symm
      have f1 : ∀ z : Later w, _ := fun z => seat_at (g1.heap (z.bel.block b hb))
      have f2 : ∀ z : Later w, _ := fun z => seat_at (g2.heap (z.bel.block b' hb'))
      dsimp only at f1 f2
      have cE : Hid (∀ w' : World, Below w.heap.size w w' → Calls Try.prog 55 #[.agg #[.int .i64 st, .int .i64 sh, .int .i64 sd, .int .i64 sp, .int .i64 eu, .int .i64 es, .int .i64 eh, .int .i64 ea, .int .i64 en, .int .i64 fu, .int .i64 fs, .int .i64 fh, .int .i64 fa, .int .i64 fn, .slice xA q.l.length xc], .agg #[.int .i64 st, .int .i64 sh, .int .i64 sd, .int .i64 sp, .int .i64 eu, .int .i64 es, .int .i64 eh, .int .i64 ea, .int .i64 en, .int .i64 fu, .int .i64 fs, .int .i64 fh, .int .i64 fa, .int .i64 fn, .slice yA q.l.length yc]] w' fun e w'' => e = .returned (.bool true) ∧ Below w'.heap.size w' w'') := fun w' hb => eqSeat_same ⟨st, sh, sd, sp, ⟨⟨eu, es, eh, ea⟩, en⟩, ⟨⟨fu, fs, fh, fa⟩, fn⟩⟩ xA yA q.l.length xc yc q.l w' ((E1.below hb).mono hb.size) ((E2.below hb).mono hb.size) hql
      have hk0 : (0 : Int) ≤ (k : Int) := by omega
      have hkn : (k : Int) < (n : Int) := by omega
      clear hq hq' e1 e2 g1 g2 E1 E2 hql
      go_wp2
      refine wp_region_later (W := w) hW.out (by kernel_rfl) (by kernel_rfl) ?_
      repeat (go_big_quiet_step ((go_at_call 55; exact calls_later (cE.out _ (Later.bel _)))))
      refine wpQuiet_nil ?_
      rintro _ ⟨⟨w', hw'⟩, rfl⟩
      have Hw' := Lib.hid hw'
      clear hw' f1 f2 cE
      go_wp2
      go_roundw
      case rel => exact ⟨k + 1, by omega, by go_num, Hw'.out⟩
      case measure => simp [intOf]; omega
    · obtain rfl : k = n := by omega
      have hlt' : ¬ (k : Int) < (k : Int) := by omega
      go_wp2
      go_ret
      exact ⟨rfl, hW.out⟩

/-- What szSeatS answers: what is left; where that is not below 0, the lists are not long. -/
def SzSeats (ss : List SeatL) (w : World) (e : Ending) (w' : World) : Prop := ∃ l : Int, e = .returned (.int .i64 l) ∧ l ≤ 1048576 ∧ (0 ≤ l → ss.length ≤ 1048576 ∧ ∀ q ∈ ss, q.l.length ≤ 1048576) ∧ Below w.heap.size w w'
end Go.Proofs.Ytakhjdodljhfmaa.Tx
namespace Go.Proofs.Ytakhjdodljhfmaa.Tx
open Go.RowKit

/-- What szInn answers: what is left; where that is not below 0, the lists are not long. -/
def SzInn (nm : Nat) (ss : List SeatL) (w : World) (e : Ending) (w' : World) : Prop := ∃ l : Int, e = .returned (.int .i64 l) ∧ l ≤ 1048576 ∧ (0 ≤ l → nm ≤ 1048576 ∧ ss.length ≤ 1048576 ∧ ∀ q ∈ ss, q.l.length ≤ 1048576) ∧ Below w.heap.size w w'
set_option maxRecDepth 100000 in
set_option maxHeartbeats 8000000 in
theorem eqInn_same (M M2 : Option Addr) (nm cm cm2 : Nat) (zs : List Int) (s : Int) (A A2 : Option Addr) (n cap cap2 : Nat) (ss : List SeatL) (w : World) (hA' : InnO w w.heap.size M nm A n zs ss) (hB' : InnO w w.heap.size M2 nm A2 n zs ss) (hnm : nm ≤ 1048576) (hn : n ≤ 1048576) (hl : ∀ q ∈ ss, q.l.length ≤ 1048576) :
    Calls Try.prog 29 #[.agg #[.slice M nm cm, .int .i64 s, .slice A n cap], .agg #[.slice M2 nm cm2, .int .i64 s, .slice A2 n cap2]] w fun e w' => e = .returned (.bool true) ∧ Below w.heap.size w w' := by
  have hA := Lib.hid hA'
  have hB := Lib.hid hB'
  clear hA' hB'
  obtain ⟨W0, hW0⟩ : ∃ W, (w.alloc (.cells #[.slice M nm cm, .int .i64 s, .slice A n cap] 41)).alloc (.cells #[.slice M2 nm cm2, .int .i64 s, .slice A2 n cap2] 41) = W := ⟨_, rfl⟩
  have K0 : Hid (Below w.heap.size w W0) := by rw [← hW0]; exact ((Below.refl _ w).alloc (Nat.le_refl _) _).alloc (by simp; try omega) _
  have P0 : Hid (W0.heap[w.heap.size]? = some (.cells #[.slice M nm cm, .int .i64 s, .slice A n cap] 41)) := by rw [← hW0]; exact heap2a w _ _
  have Q0 : Hid (W0.heap[w.heap.size + 1]? = some (.cells #[.slice M2 nm cm2, .int .i64 s, .slice A2 n cap2] 41)) := by rw [← hW0]; exact heap2b w _ _
  go_enter Try.func29, Try.ntmps29
  obtain ⟨⟨a0, a1, a2⟩, _⟩ := blk3 P0.out
  obtain ⟨⟨b0, b1, b2⟩, _⟩ := blk3 Q0.out
  go_wp2_with fail
  clear a0 a1 a2
  clear b0 b1 b2
  clear hW0
  refine (eqMemory_same M M2 nm cm cm2 zs s _ ((hA.out.mem.below K0.out).mono K0.out.size) ((hB.out.mem.below K0.out).mono K0.out.size) hnm).mono ?_
  rintro e w1 ⟨rfl, hb⟩
  have P1 := Lib.hid (blk_on hb P0.out)
  have Q1 := Lib.hid (blk_on hb Q0.out)
  have K1 := Lib.hid (K0.out.trans (hb.mono K0.out.size))
  clear hb P0 Q0 K0
  obtain ⟨⟨a0, a1, a2⟩, _⟩ := blk3 P1.out
  obtain ⟨⟨b0, b1, b2⟩, _⟩ := blk3 Q1.out
  go_wp2_with fail
  clear a0 a1 a2
  clear b0 b1 b2
  refine (eqSeatS_same A A2 n cap cap2 ss _ ((hA.out.seats.below K1.out).mono K1.out.size) ((hB.out.seats.below K1.out).mono K1.out.size) hn hl).mono ?_
  rintro e w2 ⟨rfl, hb⟩
  have P2 := Lib.hid (blk_on hb P1.out)
  have Q2 := Lib.hid (blk_on hb Q1.out)
  have K2 := Lib.hid (K1.out.trans (hb.mono K1.out.size))
  clear hb P1 Q1 K1
  go_wp2
  go_ret
  exact ⟨rfl, K2.out⟩

end Go.Proofs.Ytakhjdodljhfmaa.Tx

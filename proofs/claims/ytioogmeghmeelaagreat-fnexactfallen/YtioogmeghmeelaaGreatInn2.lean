/-
  What InnOk of the model answers. Conditions: at most 1048576 seats, and as many draws in the memory.
-/
import Derived.Test.YtioogmeghmeelaaGreatInn0
import Derived.Test.YtioogmeghmeelaaGreatSeat
import Derived.Test.YtioogmeghmeelaaGreatMem3
namespace Go.Proofs.YtioogmeghmeelaaGreat.Tx
open Go.RowKit

/-- Is an inn right? -/
def seatsOkB (ss : List SeatL) : Bool := ss.all fun q => seatOkB q.s q.l.length
def innOkB (zs : List Int) (t : Int) (ss : List SeatL) : Bool := seatsOkB ss && (memB zs t && decide (ss.length ≤ 8))
theorem seats_bad {ss : List SeatL} {k : Nat} {q : SeatL} (h : ss[k]? = some q) (hb : seatOkB q.s q.l.length = false) : seatsOkB ss = false := by
  rw [seatsOkB, List.all_eq_false]
  exact ⟨q, List.mem_of_getElem? h, by rw [hb]; simp⟩
theorem seats_good {ss : List SeatL} (h : ∀ (j : Nat) (q : SeatL), ss[j]? = some q → seatOkB q.s q.l.length = true) : seatsOkB ss = true := by
  rw [seatsOkB, List.all_eq_true]
  intro q hq
  obtain ⟨j, hj, e⟩ := List.getElem_of_mem hq
  exact h j q (by rw [← e]; exact List.getElem?_eq_getElem hj)
theorem blk3 {w : World} {g : Nat} {v0 v1 v2 : Value} {t : TypeId} (h : w.heap[g]? = some (.cells #[v0, v1, v2] t (0, 0))) : (w.cell? ⟨g, 0, none⟩ = some v0 ∧ w.cell? ⟨g, 1, none⟩ = some v1 ∧ w.cell? ⟨g, 2, none⟩ = some v2) ∧ w.frozen? ⟨g, 0, none⟩ = false ∧ w.frozen? ⟨g, 1, none⟩ = false ∧ w.frozen? ⟨g, 2, none⟩ = false :=
  ⟨⟨blk_cell h 0, blk_cell h 1, blk_cell h 2⟩, blk_frozen h 0, blk_frozen h 1, blk_frozen h 2⟩
set_option maxRecDepth 100000 in
set_option maxHeartbeats 16000000 in
theorem InnOk_spec (M : Option Addr) (nm cm : Nat) (zs : List Int) (t : Int) (A : Option Addr) (n cap : Nat) (ss : List SeatL) (w : World) (hM : Nums w w.heap.size M nm zs) (hA : SeatsO w w.heap.size A n ss) (hnm : nm ≤ 1048576) (hn : n ≤ 1048576) :
    Calls Tryz.prog 13 #[.agg #[.slice M nm cm, .int .i64 t, .slice A n cap]] w fun e w' => e = .returned (.bool (innOkB zs t ss)) ∧ Below w.heap.size w w' := by
  have hlen := hA.len
  have HM := Lib.hid hM
  have HA := Lib.hid hA
  clear hM hA
  obtain ⟨W0, hW0⟩ : ∃ W, w.alloc (.cells #[.slice M nm cm, .int .i64 t, .slice A n cap] 32) = W := ⟨_, rfl⟩
  have K0 : Hid (Below w.heap.size w W0) := by rw [← hW0]; exact (Below.refl _ w).alloc (Nat.le_refl _) _
  have N0 : Hid (W0.heap[w.heap.size]? = some (.cells #[.slice M nm cm, .int .i64 t, .slice A n cap] 32)) := by rw [← hW0]; exact heap1 w _
  have s0 : w.heap.size < W0.heap.size := by rw [← hW0]; simp
  have HA1 := Lib.hid (HA.out.below K0.out)
  have HM1 := Lib.hid (HM.out.below K0.out)
  clear HA HM
  go_enter Tryz.func13, Tryz.ntmps13
  go_wp2
  clear hW0
  go_loopw [3] (fun i wr => ∃ k : Nat, k ≤ n ∧ i = .int .i64 k ∧ (∀ (j : Nat) (q : SeatL), j < k → ss[j]? = some q → seatOkB q.s q.l.length = true) ∧ Hid (Below W0.heap.size W0 wr)) (fun i _ => n - (intOf i).toNat)
  case atStart => exact ⟨0, Nat.zero_le _, rfl, fun j _ h => absurd h (by omega), Below.refl _ _⟩
  case round =>
    obtain ⟨k, hk, rfl, hg, hW⟩ := hrel
    have HG := Lib.hid hg
    clear hg
    have N1 := Lib.hid ((hW.out.block _ s0).trans N0.out)
    obtain ⟨⟨n0, n1, n2⟩, _⟩ := blk3 N1.out
    have sW := hW.out.size
    by_cases hlt : k < n
    · obtain ⟨b, off, ⟨⟨st, sh, sd, sp, ⟨⟨eu, es, eh, ea⟩, en⟩, ⟨⟨fu, fs, fh, fa⟩, fn⟩⟩, xA, xn, xc⟩, q, rfl, hb, hq, e1, g1, E1, _⟩ := HA1.out.at hlt
      obtain ⟨c0, c1, c2, c3, c4, c5, c6, c7, c8, c9, c10, c11, c12, c13, c14⟩ := seat_at (g1.heap (hW.out.block b (by omega)))
      dsimp only at c0 c1 c2 c3 c4 c5 c6 c7 c8 c9 c10 c11 c12 c13 c14
      have hxl : q.l.length = xn := E1.1
      have cS : Calls Tryz.prog 30 #[.agg #[.int .i64 st, .int .i64 sh, .int .i64 sd, .int .i64 sp, .int .i64 eu, .int .i64 es, .int .i64 eh, .int .i64 ea, .int .i64 en, .int .i64 fu, .int .i64 fs, .int .i64 fh, .int .i64 fa, .int .i64 fn, .slice xA xn xc]] wr fun e w' => e = .returned (.bool (seatOkB q.s q.l.length)) ∧ Below wr.heap.size wr w' := by
        have h1 := SeatOk_spec ⟨st, sh, sd, sp, ⟨⟨eu, es, eh, ea⟩, en⟩, ⟨⟨fu, fs, fh, fa⟩, fn⟩⟩ xA xn xc wr
        have e2 : ⟨st, sh, sd, sp, ⟨⟨eu, es, eh, ea⟩, en⟩, ⟨⟨fu, fs, fh, fa⟩, fn⟩⟩ = q.s := e1
        rw [e2, ← hxl] at h1
        rw [← e2] at h1
        have e3 : SeatV.val ⟨st, sh, sd, sp, ⟨⟨eu, es, eh, ea⟩, en⟩, ⟨⟨fu, fs, fh, fa⟩, fn⟩⟩ xA q.l.length xc = .agg #[.int .i64 st, .int .i64 sh, .int .i64 sd, .int .i64 sp, .int .i64 eu, .int .i64 es, .int .i64 eh, .int .i64 ea, .int .i64 en, .int .i64 fu, .int .i64 fs, .int .i64 fh, .int .i64 fa, .int .i64 fn, .slice xA xn xc] := by rw [hxl]; rfl
        rw [e3] at h1
        rw [← e2]
        exact h1
      obtain ⟨z, hz⟩ : ∃ z, seatOkB q.s q.l.length = z := ⟨_, rfl⟩
      rw [hz] at cS
      have HZ := Lib.hid hz
      have HK := Lib.hid hq
      have hk0 : (0 : Int) ≤ (k : Int) := by omega
      have hkn : (k : Int) < (n : Int) := by omega
      clear hq e1 g1 E1 hxl hz
      go_wp2_with fail
      clear c0 c1 c2 c3 c4 c5 c6 c7 c8 c9 c10 c11 c12 c13 c14 n0 n1 n2
      refine cS.mono ?_
      rintro e w1 ⟨rfl, hb1⟩
      have HW := Lib.hid (hW.out.trans (hb1.mono hW.out.size))
      clear hb1 hW cS N1
      cases z with
      | false =>
        go_wp2
        go_ret
        exact ⟨by rw [innOkB, seats_bad HK.out HZ.out]; rfl, K0.out.trans (HW.out.mono K0.out.size)⟩
      | true =>
        go_wp2
        go_roundw
        case rel => exact ⟨k + 1, by omega, by go_num, fun j y hj hy => by
          by_cases hjk : j = k
          · subst hjk
            obtain rfl : q = y := Option.some.inj (HK.out.symm.trans hy)
            exact HZ.out
          · exact HG.out j y (by omega) hy, HW.out⟩
        case measure => simp [intOf]; omega
    · obtain rfl : k = n := by omega
      have hlt' : ¬ (k : Int) < (k : Int) := by omega
      have hall : seatsOkB ss = true := seats_good fun j q hq => HG.out j q (by rw [← hlen]; exact (List.getElem?_eq_some_iff.1 hq).1) hq
      have HI : Hid (innOkB zs t ss = (memB zs t && decide (k ≤ 8))) := by
        show _ = _
        rw [innOkB, hall, hlen]; rfl
      clear hall
      have cM := MemoryOk_spec M nm cm zs t wr ((HM1.out.below (hW.out.mono K0.out.size)).mono (by omega)) hnm
      generalize memB zs t = y at cM HI
      go_wp2_with fail
      clear n0 n1 n2
      refine cM.mono ?_
      rintro e w1 ⟨rfl, hb1⟩
      have N2 := Lib.hid (blk_on hb1 N1.out)
      have HW := Lib.hid (hW.out.trans (hb1.mono hW.out.size))
      clear hb1 hW cM N1
      obtain ⟨⟨n0, n1, n2⟩, _⟩ := blk3 N2.out
      cases y with
      | false =>
        have ho : innOkB zs t ss = false := HI.out
        clear HI
        go_wp2
        go_ret
        exact ⟨by rw [ho]; rfl, K0.out.trans (HW.out.mono K0.out.size)⟩
      | true =>
        by_cases h8 : k ≤ 8
        · have h8i : (k : Int) ≤ 8 := by omega
          have ho : innOkB zs t ss = true := HI.out.trans (by rw [decide_eq_true h8]; rfl)
          clear HI
          go_wp2
          go_ret
          exact ⟨by rw [ho]; first | rfl | simp [h8i] | simp, K0.out.trans (HW.out.mono K0.out.size)⟩
        · have h8i : ¬ (k : Int) ≤ 8 := by omega
          have ho : innOkB zs t ss = false := HI.out.trans (by rw [decide_eq_false h8]; rfl)
          clear HI
          go_wp2
          go_ret
          exact ⟨by rw [ho]; first | rfl | simp [h8i], K0.out.trans (HW.out.mono K0.out.size)⟩

end Go.Proofs.YtioogmeghmeelaaGreat.Tx

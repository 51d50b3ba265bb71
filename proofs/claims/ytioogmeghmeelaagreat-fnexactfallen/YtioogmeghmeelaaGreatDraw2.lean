/-
  What IsDraw, NextDraw and AllUnlike of the model answer, and what the model draws for chapter 2. Conditions: a list has at most 1048576 numbers; a draw's code has at most 4096 bytes.
-/
import Derived.Test.YtioogmeghmeelaaGreatIn
import Derived.Test.YtioogmeghmeelaaGreatNums
import Derived.Test.YtioogmeghmeelaaGreatCur
import Derived.Test.YtioogmeghmeelaaGreatCurNew
import Derived.Test.YtioogmeghmeelaaGreatDraws0
namespace Go.Proofs.YtioogmeghmeelaaGreat.Tx
open Go.RowKit


set_option maxHeartbeats 2000000 in
theorem AllUnlike_spec (A : Option Addr) (n cap : Nat) (zs : List Int) (w : World) (h : Nums w w.heap.size A n zs) (hn : n ≤ 1048576) :
    Calls Tryz.prog 56 #[.slice A n cap] w fun e w' => e = .returned (.bool (unlikeB zs)) ∧ ∃ q, w' = w.drewN q := by
  obtain ⟨hl, hc⟩ := h
  have HC := Lib.hid hc
  have HL := Lib.hid hl
  clear hl hc
  go_enter Tryz.func56, Tryz.ntmps56
  go_wp2
  go_loopw [3] (fun i wr => ∃ k : Nat, k ≤ n ∧ i = .int .i64 k ∧ Hid ((zs.take k).Nodup) ∧ ∃ q, wr = w.drewN q) (fun i _ => n - (intOf i).toNat)
  case atStart => exact ⟨0, Nat.zero_le _, rfl, by show ((zs.take 0).Nodup); simp, 0, rfl⟩
  case round =>
    obtain ⟨k, hk, rfl, hnd, q, hq⟩ := hrel
    by_cases hlt : k < n
    · have HQ := Lib.hid hq
      clear hq
      obtain ⟨b, off, rfl, hb, hc⟩ := HC.out (by omega)
      have HCC := Lib.hid hc
      clear hc
      go_wp2
      go_loopw [4] (fun i wi => ∃ j : Nat, j ≤ k ∧ i = .int .i64 j ∧ Hid (∀ t, t < j → zs[t]?.getD 0 ≠ zs[k]?.getD 0) ∧ ∃ q, wi = w.drewN q) (fun i _ => k - (intOf i).toNat)
      case atStart => exact ⟨0, Nat.zero_le _, rfl, fun t ht => absurd ht (by omega), q, HQ.out⟩
      case round =>
        obtain ⟨j, hj, rfl, hne, q2, hq2⟩ := hrel
        by_cases hjk : j < k
        · have g1 : wr.cell? ⟨b, off + k, none⟩ = some (.int .i64 (zs[k]?.getD 0)) := by rw [hq2]; exact HCC.out k hlt
          have g2 : wr.cell? ⟨b, off + j, none⟩ = some (.int .i64 (zs[j]?.getD 0)) := by rw [hq2]; exact HCC.out j (by omega)
          obtain ⟨x, hx⟩ : ∃ x, x = zs[k]?.getD 0 := ⟨_, rfl⟩
          obtain ⟨y, hy⟩ : ∃ y, y = zs[j]?.getD 0 := ⟨_, rfl⟩
          rw [← hx] at g1
          rw [← hy] at g2
          have HX := Lib.hid hx
          have HY := Lib.hid hy
          have HQ2 := Lib.hid hq2
          clear hx hy hq2
          by_cases hxy : x = y
          · have HR : Hid (unlikeB zs = false) := not_nodup (j := j) (k := k) hjk (by rw [HL.out]; exact hlt) (HX.out.symm.trans (hxy.trans HY.out))
            subst hxy
            go_wp2
            go_quiet (fail)
            go_wp2
            go_ret
            exact ⟨by rw [HR.out]; rfl, q2 + nq, by rw [HQ2.out, World.drewN_drewN]⟩
          · have hd : (x == y) = false := by rw [beq_eq_false_iff_ne]; exact hxy
            have HN : Hid (∀ t, t < j + 1 → zs[t]?.getD 0 ≠ zs[k]?.getD 0) := fun t ht => by
              by_cases e : t = j
              · subst e; rw [← HX.out, ← HY.out]; exact fun e => hxy e.symm
              · exact hne t (by omega)
            clear hxy
            go_wp2
            go_quiet (fail)
            go_wp2
            go_roundw
            case rel => exact ⟨j + 1, by omega, by go_num, HN, q2 + nq, by rw [HQ2.out, World.drewN_drewN]⟩
            case measure => simp [intOf]; omega
        · obtain rfl : j = k := by omega
          have HN : Hid ((zs.take (j + 1)).Nodup) := nodup_succ (by rw [HL.out]; exact hlt) hnd hne
          have HQ2 := Lib.hid hq2
          clear hq2
          go_wp2
          go_roundw
          case rel => exact ⟨j + 1, by omega, by go_num, HN, q2, HQ2.out⟩
          case measure => simp [intOf]; omega
    · have HR := Lib.hid (nodup_all (zs := zs) (k := k) (by rw [HL.out]; omega) hnd)
      have HQ := Lib.hid hq
      clear hq
      go_wp2
      go_ret
      exact ⟨by rw [HR.out]; rfl, q, HQ.out⟩

/-- A list of numbers that the call made. -/
structure MadeN (w : World) (base : Nat) (zs : List Int) (gb cb : Nat) : Prop where
  own : w.ownsRow base 2 1 (.slice (some ⟨gb, 0, none⟩) zs.length cb) zs.length (zs.map (Value.int .i64))
theorem MadeN.base {w : World} {base : Nat} {zs : List Int} {gb cb : Nat} (h : MadeN w base zs gb cb) : base ≤ gb ∧ gb < w.heap.size := h.own.lt gb rfl
theorem MadeN.kept {w w' : World} {base : Nat} {zs : List Int} {gb cb : Nat} {row : Option Nat} (h : MadeN w base zs gb cb) (hg : w.grownBy w' row) (hne : some gb ≠ row) : MadeN w' base zs gb cb := ⟨h.own.kept hg (.inr hne)⟩
theorem MadeN.alloc {w : World} {base : Nat} {zs : List Int} {gb cb : Nat} (h : MadeN w base zs gb cb) (o : Obj) : MadeN (w.alloc o) base zs gb cb := ⟨h.own.alloc o⟩
theorem MadeN.below {w w' : World} {base : Nat} {zs : List Int} {gb cb : Nat} (h : MadeN w base zs gb cb) (hb : Below w.heap.size w w') : MadeN w' base zs gb cb :=
  h.kept (row := none) ⟨hb.os, hb.tape, hb.output, hb.size, fun i hi _ => hb.block i hi⟩ (by simp)
theorem MadeN.new (w : World) : MadeN (w.alloc (.cells #[] 2)) w.heap.size [] w.heap.size 0 := ⟨World.ownsRow_made w #[] 0 (Nat.le_refl _) (Nat.zero_le _) rfl⟩
theorem MadeN.nums {w : World} {base : Nat} {zs : List Int} {gb cb : Nat} (h : MadeN w base zs gb cb) : Nums w w.heap.size (some ⟨gb, 0, none⟩) zs.length zs :=
  ⟨rfl, fun _ => ⟨gb, 0, rfl, h.base.2, fun j hj => by
    rw [Nat.zero_add, h.own.cellAt j (by omega), List.getElem?_map, List.getElem?_eq_getElem hj]
    rfl⟩⟩
theorem MadeN.snoc {w : World} {base : Nat} {zs : List Int} {x : Int} {v : Value} (h : w.ownsRow base 2 1 v (zs.length + 1) (zs.map (Value.int .i64) ++ [.int .i64 x])) :
    ∃ gb cb, v = .slice (some ⟨gb, 0, none⟩) (zs.length + 1) cb ∧ MadeN w base (zs ++ [x]) gb cb := by
  obtain ⟨gb, cb, rfl, _, _⟩ := h.form (by omega)
  refine ⟨gb, cb, rfl, ?_⟩
  constructor
  rw [List.length_append, List.map_append]
  exact h
theorem MadeN.mono {w : World} {base base' : Nat} {zs : List Int} {gb cb : Nat} (h : MadeN w base zs gb cb) (hb : base' ≤ base) : MadeN w base' zs gb cb := by
  refine ⟨⟨h.own.1, ?_⟩⟩
  rcases h.own.2 with h2 | ⟨g, cap, cur, hv, hg, r⟩
  · exact .inl h2
  · exact .inr ⟨g, cap, cur, hv, Nat.le_trans hb hg, r⟩


end Go.Proofs.YtioogmeghmeelaaGreat.Tx

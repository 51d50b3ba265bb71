/-
  What EarlyIn, LogOf and l14Copy of the model answer. Condition: at most 1048576 words.
-/
import Derived.Test.YtchdmmlkgglmcaaGreatDoorSeat3
namespace Go.Proofs.YtchdmmlkgglmcaaGreatDoor.Tx
open Go.RowKit

/-- How many are early. -/
def earlyN (l : List WordV) : Nat := l.countP (·.e)
theorem early_le (l : List WordV) : earlyN l ≤ l.length := List.countP_le_length
theorem early_step {l : List WordV} {k : Nat} {q : WordV} (h : l[k]? = some q) : earlyN (l.take (k + 1)) = earlyN (l.take k) + (if q.e then 1 else 0) := by
  obtain ⟨hk, e⟩ := List.getElem?_eq_some_iff.1 h
  rw [earlyN, List.take_succ_eq_append_getElem hk, List.countP_append, e, earlyN]
  congr 1
  cases he : q.e <;> simp [he]
theorem text_step {l : List WordV} {k : Nat} {q : WordV} (h : l[k]? = some q) : (l.take (k + 1)).map WordV.t = (l.take k).map WordV.t ++ [q.t] := by
  obtain ⟨hk, e⟩ := List.getElem?_eq_some_iff.1 h
  rw [List.take_succ_eq_append_getElem hk, List.map_append, e]; rfl
theorem infoStrE : ∃ (i : TypeInfo) (by' : Nat), Tryz.prog.info? 9 = some i ∧ i.zero = some (.string ⟨#[]⟩) ∧ i.size = 1 ∧ i.bytes = by' ∧ by' ≤ 200 := by
  obtain ⟨i, hi⟩ := Option.isSome_iff_exists.1 (show (Tryz.prog.info? 9).isSome = true by kernel_rfl)
  have h1 : (Tryz.prog.info? 9).map (fun i => (i.zero, i.size)) = some (some (.string ⟨#[]⟩), 1) := by kernel_rfl
  have h2 : ((Tryz.prog.info? 9).map (fun i => decide (i.bytes ≤ 200))) = some true := by kernel_rfl
  rw [hi] at h1 h2
  simp only [Option.map_some, Option.some.injEq, Prod.mk.injEq, decide_eq_true_eq] at h1 h2
  exact ⟨i, i.bytes, hi, h1.1, h1.2, rfl, h2⟩
theorem infoWordE : ∃ (i : TypeInfo) (by' : Nat), Tryz.prog.info? 49 = some i ∧ i.zero = some WordV.zero.val ∧ i.size = 2 ∧ i.bytes = by' ∧ by' ≤ 200 := by
  obtain ⟨i, hi⟩ := Option.isSome_iff_exists.1 (show (Tryz.prog.info? 49).isSome = true by kernel_rfl)
  have h1 : (Tryz.prog.info? 49).map (fun i => (i.zero, i.size)) = some (some WordV.zero.val, 2) := by kernel_rfl
  have h2 : ((Tryz.prog.info? 49).map (fun i => decide (i.bytes ≤ 200))) = some true := by kernel_rfl
  rw [hi] at h1 h2
  simp only [Option.map_some, Option.some.injEq, Prod.mk.injEq, decide_eq_true_eq] at h1 h2
  exact ⟨i, i.bytes, hi, h1.1, h1.2, rfl, h2⟩

set_option maxRecDepth 100000 in
set_option maxHeartbeats 4000000 in
theorem EarlyIn_spec (s : SeatV) (A : Option Addr) (n cap : Nat) (l : List WordV) (w : World) (h : EltsO w w.heap.size A n l) (hn : n ≤ 1048576) :
    Calls Tryz.prog 18 #[s.val A n cap] w fun e w' => e = .returned (.int .i64 ((earlyN l : Nat) : Int)) ∧ Below w.heap.size w w' := by
  have E := Lib.hid h
  clear h
  obtain ⟨st, sh, sd, sp, ⟨⟨eu, es, eh, ea⟩, en⟩, ⟨⟨fu, fs, fh, fa⟩, fn⟩⟩ := s
  have HV : Hid (SeatV.val ⟨st, sh, sd, sp, ⟨⟨eu, es, eh, ea⟩, en⟩, ⟨⟨fu, fs, fh, fa⟩, fn⟩⟩ A n cap = .agg #[.int .i64 st, .int .i64 sh, .int .i64 sd, .int .i64 sp, .int .i64 eu, .int .i64 es, .int .i64 eh, .int .i64 ea, .int .i64 en, .int .i64 fu, .int .i64 fs, .int .i64 fh, .int .i64 fa, .int .i64 fn, .slice A n cap]) := rfl
  rw [HV.out]
  clear HV
  obtain ⟨W0, hW0⟩ : ∃ W, w.alloc (.cells #[.int .i64 st, .int .i64 sh, .int .i64 sd, .int .i64 sp, .int .i64 eu, .int .i64 es, .int .i64 eh, .int .i64 ea, .int .i64 en, .int .i64 fu, .int .i64 fs, .int .i64 fh, .int .i64 fa, .int .i64 fn, .slice A n cap] 30) = W := ⟨_, rfl⟩
  have K0 : Hid (Below w.heap.size w W0) := by rw [← hW0]; exact (Below.refl _ w).alloc (Nat.le_refl _) _
  have S0 : Hid (W0.heap[w.heap.size]? = some (.cells #[.int .i64 st, .int .i64 sh, .int .i64 sd, .int .i64 sp, .int .i64 eu, .int .i64 es, .int .i64 eh, .int .i64 ea, .int .i64 en, .int .i64 fu, .int .i64 fs, .int .i64 fh, .int .i64 fa, .int .i64 fn, .slice A n cap] 30)) := by rw [← hW0]; exact heap1 w _
  obtain ⟨⟨a0, a1, a2, a3, a4, a5, a6, a7, a8, a9, a10, a11, a12, a13, a14⟩, _⟩ := blk15 S0.out
  go_enter Tryz.func18, Tryz.ntmps18
  go_wp2
  clear hW0
  go_loopw [3, 4] (fun nv i wr => ∃ k : Nat, k ≤ n ∧ i = .int .i64 k ∧ nv = .int .i64 ((earlyN (l.take k) : Nat) : Int) ∧ wr = W0) (fun _ i _ => n - (intOf i).toNat)
  case atStart => exact ⟨0, Nat.zero_le _, rfl, rfl, rfl⟩
  case round =>
    obtain ⟨k, hk, rfl, rfl, rfl⟩ := hrel
    by_cases hlt : k < n
    · obtain ⟨b, off, rfl, hb, hc⟩ := E.out.2 (by omega)
      obtain ⟨⟨xt, xp⟩, hx⟩ : ∃ x, l[k]? = some x := ⟨_, List.getElem?_eq_getElem (by rw [E.out.1]; exact hlt)⟩
      have g1 : At w b (off + k * 2) _ := hc k _ hx
      obtain ⟨c0, c1⟩ := word_at (g1.heap (K0.out.block b hb))
      dsimp only at c0 c1
      have hk0 : (0 : Int) ≤ (k : Int) := by omega
      have hkn : (k : Int) < (n : Int) := by omega
      have hle := early_le (l.take k)
      have hle2 : (l.take k).length ≤ k := by rw [List.length_take]; omega
      have HS := Lib.hid (early_step hx)
      clear hx hc g1
      obtain ⟨M, hM⟩ : ∃ M, earlyN (l.take k) = M := ⟨_, rfl⟩
      rw [hM] at HS hle ⊢
      clear hM
      cases xp with
      | false =>
        go_wp2
        go_roundw
        case rel => exact ⟨k + 1, by omega, by go_num, by rw [HS.out]; rfl, by trivial⟩
        case measure => simp [intOf]; omega
      | true =>
        go_wp2
        go_roundw
        case rel => exact ⟨k + 1, by omega, by go_num, by rw [HS.out]; show Value.int .i64 _ = Value.int .i64 _; congr 1, by trivial⟩
        case measure => simp [intOf]; omega
    · obtain rfl : k = n := by omega
      have hlt' : ¬ (k : Int) < (k : Int) := by omega
      have hR : Hid (earlyN (l.take k) = earlyN l) := by show _ = _; rw [List.take_of_length_le (by rw [E.out.1]; omega)]
      go_wp2
      go_ret
      exact ⟨by rw [hR.out]; rfl, K0.out⟩
set_option maxRecDepth 100000 in
set_option maxHeartbeats 8000000 in
theorem LogOf_spec (s : SeatV) (A : Option Addr) (n cap : Nat) (l : List WordV) (w : World) (h : EltsO w w.heap.size A n l) (hn : n ≤ 1048576) :
    Calls Tryz.prog 16 #[s.val A n cap] w fun e w' => ∃ gb cb, e = .returned (.slice (some ⟨gb, 0, none⟩) (l.map WordV.t).length cb) ∧ MadeE w' w.heap.size 9 (l.map WordV.t) gb cb ∧ Below w.heap.size w w' := by
  obtain ⟨i0, by0, hi, hz0, hz1, hz2, hby⟩ := infoStrE
  have E := Lib.hid h
  clear h
  obtain ⟨st, sh, sd, sp, ⟨⟨eu, es, eh, ea⟩, en⟩, ⟨⟨fu, fs, fh, fa⟩, fn⟩⟩ := s
  have HV : Hid (SeatV.val ⟨st, sh, sd, sp, ⟨⟨eu, es, eh, ea⟩, en⟩, ⟨⟨fu, fs, fh, fa⟩, fn⟩⟩ A n cap = .agg #[.int .i64 st, .int .i64 sh, .int .i64 sd, .int .i64 sp, .int .i64 eu, .int .i64 es, .int .i64 eh, .int .i64 ea, .int .i64 en, .int .i64 fu, .int .i64 fs, .int .i64 fh, .int .i64 fa, .int .i64 fn, .slice A n cap]) := rfl
  rw [HV.out]
  clear HV
  obtain ⟨W0, hW0⟩ : ∃ W, w.alloc (.cells #[.int .i64 st, .int .i64 sh, .int .i64 sd, .int .i64 sp, .int .i64 eu, .int .i64 es, .int .i64 eh, .int .i64 ea, .int .i64 en, .int .i64 fu, .int .i64 fs, .int .i64 fh, .int .i64 fa, .int .i64 fn, .slice A n cap] 30) = W := ⟨_, rfl⟩
  have K0 : Hid (Below w.heap.size w W0) := by rw [← hW0]; exact (Below.refl _ w).alloc (Nat.le_refl _) _
  have zW0 : W0.heap.size = w.heap.size + 1 := by rw [← hW0]; simp
  have S0 : Hid (W0.heap[w.heap.size]? = some (.cells #[.int .i64 st, .int .i64 sh, .int .i64 sd, .int .i64 sp, .int .i64 eu, .int .i64 es, .int .i64 eh, .int .i64 ea, .int .i64 en, .int .i64 fu, .int .i64 fs, .int .i64 fh, .int .i64 fa, .int .i64 fn, .slice A n cap] 30)) := by rw [← hW0]; exact heap1 w _
  obtain ⟨⟨a0, a1, a2, a3, a4, a5, a6, a7, a8, a9, a10, a11, a12, a13, a14⟩, _⟩ := blk15 S0.out
  go_enter Tryz.func16, Tryz.ntmps16
  go_wp2
  clear hW0
  go_loopw [3, 4] (fun v i wr => ∃ (k gb cb : Nat), k ≤ n ∧ i = .int .i64 k ∧ v = .slice (some ⟨gb, 0, none⟩) ((l.take k).map WordV.t).length cb ∧ MadeE wr (w.heap.size + 1) 9 ((l.take k).map WordV.t) gb cb ∧ wr.heap[w.heap.size]? = some (.cells #[.int .i64 st, .int .i64 sh, .int .i64 sd, .int .i64 sp, .int .i64 eu, .int .i64 es, .int .i64 eh, .int .i64 ea, .int .i64 en, .int .i64 fu, .int .i64 fs, .int .i64 fh, .int .i64 fa, .int .i64 fn, .slice A n cap] 30) ∧ Below w.heap.size w wr) (fun _ i _ => n - (intOf i).toNat)
  case atStart => exact ⟨0, W0.heap.size, 0, Nat.zero_le _, rfl, by simp, madeG_nil (heap1 W0 _) (by rw [zW0]; exact Nat.le_refl _), alloc_blk S0.out, K0.out.alloc K0.out.size _⟩
  case round =>
    obtain ⟨k, gb, cb, hk, rfl, rfl, hM, hS, hB⟩ := hrel
    obtain ⟨out, hout⟩ : ∃ x, (l.take k).map WordV.t = x := ⟨_, rfl⟩
    have holen : out.length ≤ n := by rw [← hout, List.length_map, List.length_take]; omega
    rw [hout] at hM ⊢
    have HO := Lib.hid hout
    have HM := Lib.hid hM
    have HB := Lib.hid hB
    have HS := Lib.hid hS
    have hgb := hM.base
    have hsB := hB.size
    clear hout hM hB hS
    obtain ⟨⟨a0, a1, a2, a3, a4, a5, a6, a7, a8, a9, a10, a11, a12, a13, a14⟩, _⟩ := blk15 HS.out
    by_cases hlt : k < n
    · obtain ⟨b, off, rfl, hb, hc⟩ := E.out.2 (by omega)
      obtain ⟨⟨xt, xp⟩, hx⟩ : ∃ x, l[k]? = some x := ⟨_, List.getElem?_eq_getElem (by rw [E.out.1]; exact hlt)⟩
      have g1 : At w b (off + k * 2) _ := hc k _ hx
      obtain ⟨c0, c1⟩ := word_at (g1.heap (HB.out.block b hb))
      dsimp only at c0 c1
      have hk0 : (0 : Int) ≤ (k : Int) := by omega
      have hkn : (k : Int) < (n : Int) := by omega
      have HT : Hid ((l.take (k + 1)).map WordV.t = out ++ [xt]) := by show _ = _; rw [text_step hx, HO.out]
      clear hx hc g1
      go_wp2_with (at_builtin; refine wpList_append_own _ rfl _ _ 45 rfl (w.heap.size + 1) 9 i0 (.string ⟨#[]⟩) 1 by0 Tryz.underlying45 hi hz0 hz1 hz2 rfl (by decide) _ _ _ rfl (HM.out.own.alloc _) ⟨wr.heap.size, 0, none⟩ 1 1 ([xt].flatMap Cells.cells) rfl rfl (cells_new wr ([.string xt]) _) flat_one (by unfold maxLen; omega) (Nat.le_trans (Nat.mul_le_mul (by omega : out.length + 1 ≤ 1048577) hby) (by decide)) (by simp; omega) ?_; intro v' w3 hown' hgrow hiff; have h9 := made_app (l := out) (l2 := [xt]) (n := out.length) (m := 1) (gb := gb) (cb := cb) hown' rfl rfl hiff; obtain ⟨gb', cb', rfl, hM'⟩ := h9; have HM' := Lib.hid hM'; have HGR := Lib.hid hgrow; clear hown' hgrow hM' hiff)
      go_roundw
      case rel => exact ⟨k + 1, gb', cb', by omega, by go_num, by rw [HT.out]; first | rfl | simp, by rw [HT.out]; exact HM'.out, blk_off HGR.out (alloc_blk HS.out) (show w.heap.size ≠ gb by omega), (HB.out.alloc HB.out.size _).grown HGR.out (by simp; omega) (by intro k' e; have e1 := Option.some.inj e; dsimp only at e1; omega)⟩
      case measure => simp [intOf]; omega
    · obtain rfl : k = n := by omega
      have hlt' : ¬ (k : Int) < (k : Int) := by omega
      have hR : Hid (out = l.map WordV.t) := by show _ = _; rw [← HO.out, List.take_of_length_le (by rw [E.out.1]; omega)]
      go_wp2
      go_ret
      exact ⟨gb, cb, by rw [hR.out, List.length_map]; rfl, by rw [← hR.out]; exact HM.out.mono (by omega), HB.out⟩
end Go.Proofs.YtchdmmlkgglmcaaGreatDoor.Tx

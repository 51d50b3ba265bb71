/-
  What IsDraw, NextDraw and AllUnlike of the model answer, and what the model draws for chapter 2. Conditions: a list has at most 1048576 numbers; a draw's code has at most 4096 bytes.
-/
import Derived.Test.YtgbebcnodlnkgaaIn
import Derived.Test.YtgbebcnodlnkgaaNums
import Derived.Test.YtgbebcnodlnkgaaCur
import Derived.Test.YtgbebcnodlnkgaaCurNew
import Derived.Test.YtgbebcnodlnkgaaDraws0
namespace Go.Proofs.Ytgbebcnodlnkgaa.Tx
open Go.RowKit

theorem NextDraw_spec (n : Int) (w : World) : Calls Try.prog 11 #[.int .i64 n] w fun e w' => e = .returned (.tuple #[.int .i64 (nextD n), .bool (nextB n)]) ∧ w = w' := by
  cases hb : nextB n with
  | false =>
    have H := Lib.hid (nextB_false hb).1
    have hb' : (decide (0 ≤ n) && decide (n ≤ 99999)) = false := hb
    clear hb
    go_enter Try.func11, Try.ntmps11
    go_wp2_with fail
    refine (l1In_any _ _ _ _).mono ?_
    rintro e w' ⟨rfl, rfl⟩
    rw [hb']
    go_wp2
    go_ret2
    exact ⟨by rw [H.out]; rfl, rfl⟩
  | true =>
    have H := Lib.hid (nextB_true hb).1
    obtain ⟨h0, h1⟩ := (nextB_true hb).2
    have hb' : (decide (0 ≤ n) && decide (n ≤ 99999)) = true := hb
    clear hb
    go_enter Try.func11, Try.ntmps11
    go_wp2_with fail
    refine (l1In_any _ _ _ _).mono ?_
    rintro e w' ⟨rfl, rfl⟩
    rw [hb']
    go_wp2
    go_ret2
    exact ⟨by rw [H.out]; rfl, rfl⟩

set_option maxHeartbeats 2000000 in
theorem AllUnlike_spec (A : Option Addr) (n cap : Nat) (zs : List Int) (w : World) (h : Nums w w.heap.size A n zs) (hn : n ≤ 1048576) :
    Calls Try.prog 15 #[.slice A n cap] w fun e w' => e = .returned (.bool (unlikeB zs)) ∧ ∃ q, w' = w.drewN q := by
  obtain ⟨hl, hc⟩ := h
  have HC := Lib.hid hc
  have HL := Lib.hid hl
  clear hl hc
  go_enter Try.func15, Try.ntmps15
  go_wp2
  go_loopw [3] (fun i wr => ∃ k : Nat, k ≤ n ∧ i = .int .i64 k ∧ Hid ((zs.take k).Nodup) ∧ ∃ q, wr = w.drewN q) (fun i _ => n - (intOf i).toNat)
  case atStart => exact ⟨0, Nat.zero_le _, rfl, by show ((zs.take 0).Nodup); simp, 0, rfl⟩
  case round =>
    obtain ⟨k, hk, rfl, hnd, q, hq⟩ := hrel
    by_cases hlt : k < n
    · have HQ := Lib.hid hq
      clear hq
      obtain ⟨b, off, rfl, hb, hc⟩ := HC.out (by omega)
      have HCC := Lib.hid hc
      clear hc
      go_wp2
      go_loopw [4] (fun i wi => ∃ j : Nat, j ≤ k ∧ i = .int .i64 j ∧ Hid (∀ t, t < j → zs[t]?.getD 0 ≠ zs[k]?.getD 0) ∧ ∃ q, wi = w.drewN q) (fun i _ => k - (intOf i).toNat)
      case atStart => exact ⟨0, Nat.zero_le _, rfl, fun t ht => absurd ht (by omega), q, HQ.out⟩
      case round =>
        obtain ⟨j, hj, rfl, hne, q2, hq2⟩ := hrel
        by_cases hjk : j < k
        · have g1 : wr.cell? ⟨b, off + k, none⟩ = some (.int .i64 (zs[k]?.getD 0)) := by rw [hq2]; exact HCC.out k hlt
          have g2 : wr.cell? ⟨b, off + j, none⟩ = some (.int .i64 (zs[j]?.getD 0)) := by rw [hq2]; exact HCC.out j (by omega)
          obtain ⟨x, hx⟩ : ∃ x, x = zs[k]?.getD 0 := ⟨_, rfl⟩
          obtain ⟨y, hy⟩ : ∃ y, y = zs[j]?.getD 0 := ⟨_, rfl⟩
          rw [← hx] at g1
          rw [← hy] at g2
          have HX := Lib.hid hx
          have HY := Lib.hid hy
          have HQ2 := Lib.hid hq2
          clear hx hy hq2
          by_cases hxy : x = y
          · have HR : Hid (unlikeB zs = false) := not_nodup (j := j) (k := k) hjk (by rw [HL.out]; exact hlt) (HX.out.symm.trans (hxy.trans HY.out))
            subst hxy
            go_wp2
            go_quiet (fail)
            go_wp2
            go_ret
            exact ⟨by rw [HR.out]; rfl, q2 + nq, by rw [HQ2.out, World.drewN_drewN]⟩
          · have hd : (x == y) = false := by rw [beq_eq_false_iff_ne]; exact hxy
            have HN : Hid (∀ t, t < j + 1 → zs[t]?.getD 0 ≠ zs[k]?.getD 0) := fun t ht => by
              by_cases e : t = j
              · subst e; rw [← HX.out, ← HY.out]; exact fun e => hxy e.symm
              · exact hne t (by omega)
            clear hxy
            go_wp2
            go_quiet (fail)
            go_wp2
            go_roundw
            case rel => exact ⟨j + 1, by omega, by go_num, HN, q2 + nq, by rw [HQ2.out, World.drewN_drewN]⟩
            case measure => simp [intOf]; omega
        · obtain rfl : j = k := by omega
          have HN : Hid ((zs.take (j + 1)).Nodup) := nodup_succ (by rw [HL.out]; exact hlt) hnd hne
          have HQ2 := Lib.hid hq2
          clear hq2
          go_wp2
          go_roundw
          case rel => exact ⟨j + 1, by omega, by go_num, HN, q2, HQ2.out⟩
          case measure => simp [intOf]; omega
    · have HR := Lib.hid (nodup_all (zs := zs) (k := k) (by rw [HL.out]; omega) hnd)
      have HQ := Lib.hid hq
      clear hq
      go_wp2
      go_ret
      exact ⟨by rw [HR.out]; rfl, q, HQ.out⟩

theorem l2Draw_any (w : World) (g : Nat) (A : Option Addr) (n cap : Nat) (i h : Int) (hn : n ≤ 4096) (c : Cur w g A n cap i h) :
    Calls Try.prog 35 #[.pointer (some ⟨g, 0, none⟩)] w (CurOut (fun x => 1 ≤ x ∧ x ≤ 6) w g A n cap) := by
  have C := Lib.hid c
  clear c
  go_enter Try.func35, Try.ntmps35
  go_wp2_with fail
  refine (l1Below_any _ g A n cap i h 6 hn (by omega) (by omega) C.out).mono ?_
  rintro e w1 ⟨x, i1, h1, ⟨hx0, hx1⟩, rfl, c1, b1⟩
  have C1 := Lib.hid c1
  have B1 := Lib.hid b1
  clear c1 b1
  go_wp2
  go_ret
  exact CurOut.of ⟨by omega, by omega⟩ C1.out B1.out

set_option maxHeartbeats 1000000 in
theorem l2DrawAny_any (w : World) (g : Nat) (A : Option Addr) (n cap : Nat) (i h : Int) (hn : n ≤ 4096) (c : Cur w g A n cap i h) :
    Calls Try.prog 29 #[.pointer (some ⟨g, 0, none⟩)] w (CurOut (fun x => -1 ≤ x ∧ x ≤ 100001) w g A n cap) := by
  have C := Lib.hid c
  clear c
  go_enter Try.func29, Try.ntmps29
  go_wp2_with fail
  refine (l1Once_any _ g A n cap i h 8 hn (by omega) (by omega) C.out).mono ?_
  rintro e w0 ⟨b, i0, h0, rfl, c0, b0⟩
  have C0 := Lib.hid c0
  have B0 := Lib.hid b0
  have hg := c0.lt
  clear c0 b0
  cases b with
  | true =>
    go_wp2_with fail
    refine (l1Below_any _ g A n cap i0 h0 5 hn (by omega) (by omega) (C0.out.alloc _)).mono ?_
    rintro e w1 ⟨x, i1, g1, ⟨hx0, hx1⟩, rfl, c1, b1⟩
    obtain ⟨k, rfl⟩ := Int.eq_ofNat_of_zero_le hx0
    have hblk := alloc_kept b1 hg
    have hcell : ∃ z : Int, w1.cell? ⟨w0.heap.size, k, none⟩ = some (.int .i64 z) ∧ -1 ≤ z ∧ z ≤ 100001 := by
      have hk : k = 0 ∨ k = 1 ∨ k = 2 ∨ k = 3 ∨ k = 4 := by omega
      rcases hk with rfl | rfl | rfl | rfl | rfl <;> exact ⟨_, by rw [World.cell?, hblk]; rfl, by decide, by decide⟩
    obtain ⟨z, hz, hz0, hz1⟩ := hcell
    have C1 := Lib.hid c1
    have B1 := Lib.hid (only_trans B0.out (only_trans (World.grownBy_alloc w0 _ (some g)) b1))
    clear c1 b1 hblk
    go_wp2
    go_ret
    exact CurOut.of ⟨hz0, hz1⟩ C1.out B1.out
  | false =>
    go_wp2_with fail
    refine (l2Draw_any _ g A n cap i0 h0 hn C0.out).mono ?_
    rintro e w1 ⟨x, i1, g1, ⟨hx0, hx1⟩, rfl, c1, b1⟩
    have C1 := Lib.hid c1
    have B1 := Lib.hid (only_trans B0.out b1)
    clear c1 b1
    go_wp2
    go_ret
    exact CurOut.of ⟨by omega, by omega⟩ C1.out B1.out

/-- What a draw of one number leaves. -/
def NumOut (w : World) (e : Ending) (w' : World) : Prop := ∃ x : Int, -1 ≤ x ∧ x ≤ 100001 ∧ e = .returned (.int .i64 x) ∧ Below w.heap.size w w'

theorem DrawIsDraw_any (w : World) (A : Option Addr) (n cap : Nat) (hn : n ≤ 4096) (hb : BytesAt w w.heap.size A n) :
    Calls Try.prog 19 #[.slice A n cap] w (NumOut w) := by
  have HB := Lib.hid hb
  clear hb
  go_enter Try.func19, Try.ntmps19
  go_wp2_with fail
  refine (l1New_any _ A n cap hn HB.out).mono ?_
  rintro e w0 ⟨rfl, h0, c0, b0⟩
  have C0 := Lib.hid c0
  have B0 := Lib.hid b0
  clear c0 b0
  go_wp2_with fail
  refine (l2DrawAny_any _ _ A n cap 0 h0 hn C0.out).mono ?_
  rintro e w1 ⟨x, i1, g1, ⟨hx0, hx1⟩, rfl, c1, b1⟩
  have B1 := Lib.hid (B0.out.trans (below_of_only b1 (Nat.le_refl _) C0.out.lt))
  clear c1 b1
  go_wp2
  go_ret
  exact ⟨x, hx0, hx1, rfl, B1.out⟩
theorem DrawNextDraw_any (w : World) (A : Option Addr) (n cap : Nat) (hn : n ≤ 4096) (hb : BytesAt w w.heap.size A n) :
    Calls Try.prog 8 #[.slice A n cap] w (NumOut w) := by
  have HB := Lib.hid hb
  clear hb
  go_enter Try.func8, Try.ntmps8
  go_wp2_with fail
  refine (DrawIsDraw_any _ A n cap hn HB.out).mono ?_
  rintro e w0 ⟨x, hx0, hx1, rfl, b0⟩
  go_wp2
  go_ret
  exact ⟨x, hx0, hx1, rfl, b0⟩

set_option maxHeartbeats 1000000 in
theorem pick_any (w : World) (A : Option Addr) (n cap : Nat) (seed m : Int) (hn : n ≤ 4096) (hb : BytesAt w w.heap.size A n) (hs0 : 0 ≤ seed) (hs1 : seed ≤ 1000) (hm0 : 0 < m) (hm1 : m ≤ 1000000) :
    Calls Try.prog 16 #[.slice A n cap, .int .i64 seed, .int .i64 m] w fun e w' => (∃ x : Int, 0 ≤ x ∧ x < m ∧ e = .returned (.int .i64 x)) ∧ w = w' := by
  have HB := Lib.hid hb
  clear hb
  go_enter Try.func16, Try.ntmps16
  go_wp2
  go_loop [7, 8] (fun x i => ∃ (k : Nat) (y : Int), k ≤ n ∧ i = .int .i64 k ∧ x = .int .i64 y ∧ 0 ≤ y ∧ y ≤ 10000000) (fun _ i => n - (intOf i).toNat)
  case atStart => exact ⟨0, _, Nat.zero_le _, rfl, rfl, by omega, by omega⟩
  case round =>
    obtain ⟨k, y, hk, rfl, rfl, hy0, hy1⟩ := hrel
    by_cases hlt : k < n
    · obtain ⟨b, off, rfl, hlb, hc⟩ := HB.out (by omega)
      obtain ⟨z, hz0, hz1, hz⟩ := hc k hlt
      clear hc
      go_wp2
      go_round
      case rel => exact ⟨k + 1, _, by omega, by go_num, rfl, by omega, by omega⟩
      case measure => simp [intOf]; omega
    · go_wp2
      go_ret
      exact ⟨⟨y % m, Int.emod_nonneg _ (by omega), Int.emod_lt_of_pos _ hm0, rfl⟩, rfl⟩

/-- A list of numbers that the call made. -/
structure MadeN (w : World) (base : Nat) (zs : List Int) (gb cb : Nat) : Prop where
  own : w.ownsRow base 2 1 (.slice (some ⟨gb, 0, none⟩) zs.length cb) zs.length (zs.map (Value.int .i64))
theorem MadeN.base {w : World} {base : Nat} {zs : List Int} {gb cb : Nat} (h : MadeN w base zs gb cb) : base ≤ gb ∧ gb < w.heap.size := h.own.lt gb rfl
theorem MadeN.kept {w w' : World} {base : Nat} {zs : List Int} {gb cb : Nat} {row : Option Nat} (h : MadeN w base zs gb cb) (hg : w.grownBy w' row) (hne : some gb ≠ row) : MadeN w' base zs gb cb := ⟨h.own.kept hg (.inr hne)⟩
theorem MadeN.alloc {w : World} {base : Nat} {zs : List Int} {gb cb : Nat} (h : MadeN w base zs gb cb) (o : Obj) : MadeN (w.alloc o) base zs gb cb := ⟨h.own.alloc o⟩
theorem MadeN.below {w w' : World} {base : Nat} {zs : List Int} {gb cb : Nat} (h : MadeN w base zs gb cb) (hb : Below w.heap.size w w') : MadeN w' base zs gb cb :=
  h.kept (row := none) ⟨hb.os, hb.tape, hb.output, hb.size, fun i hi _ => hb.block i hi⟩ (by simp)
theorem MadeN.new (w : World) : MadeN (w.alloc (.cells #[] 2)) w.heap.size [] w.heap.size 0 := ⟨World.ownsRow_made w #[] 0 (Nat.le_refl _) (Nat.zero_le _) rfl⟩
theorem MadeN.nums {w : World} {base : Nat} {zs : List Int} {gb cb : Nat} (h : MadeN w base zs gb cb) : Nums w w.heap.size (some ⟨gb, 0, none⟩) zs.length zs :=
  ⟨rfl, fun _ => ⟨gb, 0, rfl, h.base.2, fun j hj => by
    rw [Nat.zero_add, h.own.cellAt j (by omega), List.getElem?_map, List.getElem?_eq_getElem hj]
    rfl⟩⟩
theorem MadeN.snoc {w : World} {base : Nat} {zs : List Int} {x : Int} {v : Value} (h : w.ownsRow base 2 1 v (zs.length + 1) (zs.map (Value.int .i64) ++ [.int .i64 x])) :
    ∃ gb cb, v = .slice (some ⟨gb, 0, none⟩) (zs.length + 1) cb ∧ MadeN w base (zs ++ [x]) gb cb := by
  obtain ⟨gb, cb, rfl, _, _⟩ := h.form (by omega)
  refine ⟨gb, cb, rfl, ?_⟩
  constructor
  rw [List.length_append, List.map_append]
  exact h
theorem MadeN.mono {w : World} {base base' : Nat} {zs : List Int} {gb cb : Nat} (h : MadeN w base zs gb cb) (hb : base' ≤ base) : MadeN w base' zs gb cb := by
  refine ⟨⟨h.own.1, ?_⟩⟩
  rcases h.own.2 with h2 | ⟨g, cap, cur, hv, hg, r⟩
  · exact .inl h2
  · exact .inr ⟨g, cap, cur, hv, Nat.le_trans hb hg, r⟩

/-- What DrawAllUnlike leaves. -/
def NumsOut (w : World) (e : Ending) (w' : World) : Prop :=
  ∃ (zs : List Int) (gb cb : Nat), zs.length ≤ 4 ∧ e = .returned (.slice (some ⟨gb, 0, none⟩) zs.length cb) ∧ MadeN w' w.heap.size zs gb cb ∧ Below w.heap.size w w'

/-- What holds at the head of its loop (w: the world where the cursor g has been made). -/
def DN (w : World) (g : Nat) (A : Option Addr) (n cap : Nat) (k : Nat) (v : Value) (wr : World) : Prop :=
  ∃ (zs : List Int) (gb cb : Nat) (i h : Int), zs.length + k ≤ 4 ∧ v = .slice (some ⟨gb, 0, none⟩) zs.length cb ∧ MadeN wr w.heap.size zs gb cb ∧ Cur wr g A n cap i h ∧ w.grownBy wr (some g)

set_option maxHeartbeats 1000000 in
theorem DrawAllUnlike_any (w : World) (A : Option Addr) (n cap : Nat) (hn : n ≤ 4096) (hb : BytesAt w w.heap.size A n) :
    Calls Try.prog 10 #[.slice A n cap] w (NumsOut w) := by
  obtain ⟨i0, hi, hz0, hz1, hz2⟩ := info_parts infoInt64
  have HB := Lib.hid hb
  clear hb
  go_enter Try.func10, Try.ntmps10
  go_wp2_with fail
  refine (l1New_any _ A n cap hn HB.out).mono ?_
  rintro e w0 ⟨rfl, h0, c0, b0⟩
  have C0 := Lib.hid c0
  have B0 := Lib.hid b0
  have hl0 := c0.lt
  clear c0 b0
  go_wp2_with fail
  refine (l1Below_any _ _ A n cap 0 h0 5 hn (by omega) (by omega) (C0.out.alloc _)).mono ?_
  rintro e w1 ⟨x, i1, g1, ⟨hx0, hx1⟩, rfl, c1, b1⟩
  obtain ⟨k0, rfl⟩ := Int.eq_ofNat_of_zero_le hx0
  have M1 : Hid (DN w0 w.heap.size A n cap k0 (.slice (some ⟨w0.heap.size, 0, none⟩) 0 0) w1) :=
    ⟨[], w0.heap.size, 0, i1, g1, by simp; omega, rfl, (MadeN.new w0).kept b1 (by intro e; injection e with e; omega), c1, only_trans (World.grownBy_alloc w0 _ _) b1⟩
  clear c1 b1
  go_wp2
  go_loopw [4, 5] (fun v nn wr => ∃ k : Nat, nn = .int .i64 k ∧ k ≤ 4 ∧ DN w0 w.heap.size A n cap k v wr) (fun _ nn _ => (intOf nn).toNat)
  case atStart => exact ⟨k0, rfl, by omega, M1.out⟩
  case round =>
    obtain ⟨k, rfl, hk5, zs, gb, cb, i2, h2, hlen, rfl, hM, hC, hG⟩ := hrel
    have HM := Lib.hid hM
    have HC := Lib.hid hC
    have HG := Lib.hid hG
    obtain ⟨hb1, hb2⟩ := hM.base
    clear hM hC hG
    by_cases hk : 0 < k
    · go_wp2_with fail
      refine (l1Below_any _ _ A n cap i2 h2 9 hn (by omega) (by omega) HC.out).mono ?_
      rintro e w2 ⟨x, i3, h3, ⟨hx0, hx1⟩, rfl, c3, b3⟩
      have HM3 := Lib.hid (HM.out.kept b3 (by intro e; injection e with e; omega))
      have HC3 := Lib.hid c3
      have HG3 := Lib.hid (only_trans HG.out b3)
      have hs3 := HG3.out.size
      clear c3 b3
      go_wp2_with (at_builtin; refine wpList_append_own _ rfl _ _ 27 rfl w0.heap.size 2 i0 (.int .i64 0) 1 8 Try.underlying27 hi hz0 hz1 hz2 rfl (by decide) _ _ _ rfl (HM3.out.own.alloc _) ⟨w2.heap.size, 0, none⟩ 1 1 [.int .i64 x] rfl rfl (cell_one_new _ _ _) (by simp [Value.oneCell']) (by unfold maxLen; omega) (by omega) (by simp; omega) ?_; intro v' w3 hown' hgrow _; obtain ⟨gb', cb', rfl, hM'⟩ := MadeN.snoc hown'; have HM' := Lib.hid hM'; have HGR := Lib.hid hgrow; clear hown' hgrow hM')
      go_roundw
      case rel =>
        refine ⟨k - 1, by go_num, by omega, zs ++ [x], gb', cb', i3, h3, by simp; omega, by simp, HM'.out, ?_, ?_⟩
        · exact (HC3.out.alloc _).far (gb := gb) HGR.out (by omega)
        · exact only_own (only_alloc HG3.out _) HGR.out hb1
      case measure => simp [intOf]; omega
    · go_wp2
      go_ret
      exact ⟨zs, gb, cb, by omega, rfl, HM.out.mono B0.out.size, B0.out.trans (below_of_only HG.out (Nat.le_refl _) hl0)⟩

end Go.Proofs.Ytgbebcnodlnkgaa.Tx

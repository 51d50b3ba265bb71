/-
  The law FnDraws returns true at every code, and the code reads behind the call as it read before: the next draw is new, and draws one after the other are all unlike. No condition.
-/
import Derived.Test.YtgbebcnodlnkgaaRows
import Derived.WalkKit
import Derived.ProofKit
import Derived.OpenShut
import Derived.ShutString
import Derived.ChangeOld
import Derived.Below
import Derived.SliceStrings
import Derived.Lib.SmallJoins
import Derived.Test.YtgbebcnodlnkgaaImpl2
namespace Go.Proofs.Ytgbebcnodlnkgaa.fnDraws
open Go.ChangeShapes Go.WideShapes Go.ChangeAt Go.RowKit
open Go.ChangeMaps (open_string shut_string)
set_option linter.unusedVariables false

/-- The k draws that follow a. -/
def following (a : Int) (k : Nat) : List Int := (List.range k).map fun j : Nat => a + 1 + (j : Int)
theorem following_succ (a : Int) (k : Nat) : following a (k + 1) = following a k ++ [a + 1 + (k : Int)] := by simp [following, List.range_succ]
theorem following_length (a : Int) (k : Nat) : (following a k).length = k := by simp [following]
theorem following_unlike (a : Int) (k : Nat) : Tx.unlikeB (following a k) = true := by
  refine decide_eq_true ?_
  unfold following
  refine List.pairwise_map.2 (List.Pairwise.imp ?_ List.nodup_range)
  intro x y h e
  apply h
  omega
theorem following_twice (a : Int) (k j : Nat) (hj : j < k) : Tx.unlikeB (following a k ++ [(following a k)[j]?.getD 0]) = false := by
  refine Tx.not_nodup (j := j) (k := k) hj (by simp [following_length]) ?_
  have h1 : (following a k ++ [(following a k)[j]?.getD 0])[k]? = some ((following a k)[j]?.getD 0) := by
    rw [List.getElem?_append_right (by rw [following_length]; exact Nat.le_refl _), following_length]
    simp
  have h2 : (following a k ++ [(following a k)[j]?.getD 0])[j]? = (following a k)[j]? := List.getElem?_append_left (by rw [following_length]; exact hj)
  rw [h1, h2]
  rfl

/-- What holds at the head of the law's loop. -/
structure Going (w : World) (base : Nat) (a : Int) (k gb cb : Nat) (v : Value) (wr : World) : Prop where
  val : v = .slice (some ⟨gb, 0, none⟩) k cb
  made : Tx.MadeN wr base (following a k) gb cb
  kept : Tx.Kp w wr

theorem going_snoc {w : World} {base k : Nat} {a : Int} {v : Value} (h : w.ownsRow base 2 1 v (k + 1) ((following a k).map (Value.int .i64) ++ [.int .i64 (a + k + 1)])) :
    ∃ gb cb, v = .slice (some ⟨gb, 0, none⟩) (k + 1) cb ∧ Tx.MadeN w base (following a (k + 1)) gb cb := by
  have e : a + (k : Int) + 1 = a + 1 + (k : Int) := by omega
  rw [e] at h
  have hl := following_length a k
  obtain ⟨gb, cb, hv, hm⟩ := Tx.MadeN.snoc (zs := following a k) (x := a + 1 + (k : Int)) (v := v) (w := w) (base := base) (by rw [hl]; exact h)
  rw [hl] at hv
  refine ⟨gb, cb, hv, ?_⟩
  rw [following_succ]
  exact hm

set_option maxRecDepth 100000 in
set_option maxHeartbeats 4000000 in
theorem walk (w : World) (a0 : Option Addr) (len0 cap0 : Nat) (hb : Tx.BytesAt w w.heap.size a0 len0) (hl : len0 ≤ maxLen) :
    Calls Try.prog 3 #[.slice a0 len0 cap0] w fun e w' => e = .returned (.bool true) ∧ Below w.heap.size w w' := by
  obtain ⟨i0, hi, hz0, hz1, hz2⟩ := info_parts Tx.infoInt64
  unfold maxLen at hl
  have HB := Lib.hid hb
  clear hb
  by_cases hbig : 4096 < len0
  · have hd : decide (4096 < len0) = true := by simpa using hbig
    go_enter Try.func3, Try.ntmps3
    go_wp2_with fail
    refine (Tx.big_any _ _ _ _).mono ?_
    rintro e w' ⟨rfl, rfl⟩
    go_wp2
    go_ret
    exact ⟨rfl, Below.refl _ _⟩
  · have hd : decide (4096 < len0) = false := by simpa using hbig
    have hn : len0 ≤ 4096 := by omega
    clear hbig
    go_enter Try.func3, Try.ntmps3
    go_wp2_with fail
    refine (Tx.big_any _ _ _ _).mono ?_
    rintro e w' ⟨rfl, rfl⟩
    go_wp2_with fail
    refine (Tx.DrawNextDraw_any _ _ _ _ hn HB.out).mono ?_
    rintro e w1 ⟨x, hx0, hx1, rfl, b1⟩
    have K1 := Tx.Kp.start.go b1
    have HB1 := Lib.hid (HB.out.kept b1)
    clear b1
    go_wp2_with fail
    refine (Tx.NextDraw_impl _ (by omega) _).mono ?_
    rintro e w2 ⟨rfl, b2⟩
    have K2 := K1.go b2
    have HB2 := Lib.hid (HB1.out.kept b2)
    clear b2
    go_wp2_with fail
    refine (Tx.DrawAllUnlike_any _ _ _ _ hn HB2.out).mono ?_
    rintro e w3 ⟨zs, gb, cb, hzl, rfl, m3, b3⟩
    have K3 := K2.go b3
    have HB3 := Lib.hid (HB2.out.kept b3)
    have N3 := Lib.hid m3.nums
    clear b3 m3
    go_wp2_with fail
    refine (Tx.NextDraw_spec _ _).mono ?_
    rintro e w' ⟨rfl, rfl⟩
    go_wp2_with fail
    refine (Tx.IsDraw_impl _ _).mono ?_
    rintro e w4 ⟨rfl, b4⟩
    have K4 := K3.go b4
    have HB4 := Lib.hid (HB3.out.kept b4)
    have L4 := Tx.Kp.start.go b4
    clear b4
    go_wp2_with fail
    refine (Tx.IsDraw_spec _ _).mono ?_
    rintro e w' ⟨rfl, rfl⟩
    go_wp2_with fail
    refine (Tx.AllUnlike_impl _ _ _ zs _ (L4.nums N3.out) (by omega)).mono ?_
    rintro e w5 ⟨rfl, b5⟩
    have K5 := K4.go b5
    have HB5 := Lib.hid (HB4.out.kept b5)
    have L5 := L4.go b5
    clear b5
    go_wp2_with fail
    refine (Tx.AllUnlike_spec _ _ _ zs _ (L5.nums N3.out) (by omega)).mono ?_
    rintro e w6 ⟨rfl, q6, rfl⟩
    have K6 := K5.go (Tx.drewN_below (Below.refl _ w5) q6)
    have HB6 := Lib.hid (HB5.out.kept (Tx.drewN_below (Below.refl _ w5) q6))
    generalize w5.drewN q6 = w6 at K6 HB6 ⊢
    clear L4 L5 N3 K1 K2 K3 K4 K5 HB1 HB2 HB3 HB4 HB5
    cases hnb : Tx.nextB x with
    | false =>
      go_wp2_with fail
      have K8 := K6.go ((Below.refl _ w6).alloc (Nat.le_refl _) (.cells #[] 2))
      have HB8 := Lib.hid (HB6.out.kept ((Below.refl _ w6).alloc (Nat.le_refl _) (.cells #[] 2)))
      have M8 := Lib.hid (Tx.MadeN.new w6)
      have hsz : w6.heap.size ≤ (w6.alloc (.cells #[] 2)).heap.size := by simp
      have hbase : w.heap.size ≤ w6.heap.size := K6.bel.size
      generalize w6.heap.size = base at M8 hsz hbase ⊢
      generalize w6.alloc (.cells #[] 2) = w8 at K8 HB8 M8 hsz ⊢
      clear K6 HB6 hnb
      refine (Tx.pick_any _ _ _ _ 1 1000 hn HB8.out (by omega) (by omega) (by omega) (by omega)).mono ?_
      rintro e w' ⟨⟨a, ha0, ha1, rfl⟩, rfl⟩
      have G0 : Hid (Going w base a 0 base 0 (.slice (some ⟨base, 0, none⟩) 0 0) w8) := ⟨rfl, M8.out, K8⟩
      clear M8
      go_wp2
      go_loopw [9, 10, 11] (fun v at_ i wr => ∃ k gb cb : Nat, i = .int .i64 k ∧ k ≤ 6 ∧ at_ = .int .i64 (a + k) ∧ Going w base a k gb cb v wr) (fun _ _ i _ => 6 - (intOf i).toNat)
      case atStart => exact ⟨0, base, 0, rfl, by omega, by simp, G0.out⟩
      case round =>
        obtain ⟨k, gb2, cb2, rfl, hk6, rfl, rfl, hM, hK⟩ := hrel
        have HM := Lib.hid hM
        obtain ⟨hgb1, hgb2⟩ := hM.base
        clear hM
        by_cases hk : k < 6
        · have e1 : Tx.nextB (a + k) = true := by unfold Tx.nextB; rw [Bool.and_eq_true, decide_eq_true_iff, decide_eq_true_iff]; omega
          have e2 := (Tx.nextB_true e1).1
          have E1 := Lib.hid e1
          have E2 := Lib.hid e2
          clear e1 e2
          go_wp2_with fail
          refine (Tx.NextDraw_impl _ (by omega) _).mono ?_
          rintro e w9 ⟨rfl, b9⟩
          rw [E1.out, E2.out]
          have HM9 := Lib.hid (HM.out.below b9)
          have K9 := hK.go b9
          have hs9 := b9.size
          clear b9
          have hML : (following a k).length ≤ 6 := by rw [following_length]; exact hk6
          have HM9' : Hid (w9.ownsRow base 2 1 (.slice (some ⟨gb2, 0, none⟩) k cb2) k ((following a k).map (Value.int .i64))) := by have h := HM9.out.own; rw [following_length] at h; exact h
          go_wp2_with (at_builtin; refine wpList_append_own _ rfl _ _ 27 rfl base 2 i0 (.int .i64 0) 1 8 Try.underlying27 hi hz0 hz1 hz2 rfl (by decide) _ _ _ rfl (HM9'.out.alloc _) ⟨w9.heap.size, 0, none⟩ 1 1 [.int .i64 (a + k + 1)] rfl rfl (cell_one_new _ _ _) (by simp [Value.oneCell']) (by unfold maxLen; omega) (by omega) (by simp; omega) ?_; intro v' w10 hown' hgrow _; obtain ⟨gb', cb', rfl, hM'⟩ := going_snoc hown'; have HM' := Lib.hid hM'; have HGR := Lib.hid hgrow; clear hown' hgrow hM')
          have K10 : Tx.Kp w w10 := ⟨(K9.bel.alloc K9.bel.size _).grown HGR.out (by have := K9.bel.size; simp; omega) (fun j e => by have e1 := Option.some.inj e; dsimp only at e1; omega)⟩
          clear HGR
          go_roundw
          case rel => exact ⟨k + 1, gb', cb', by go_num, by omega, by go_num, rfl, HM'.out, K10⟩
          case measure => simp [intOf]; omega
        · obtain rfl : k = 6 := by omega
          have hU := following_unlike a 6
          have HU := Lib.hid hU
          have HM6 : Hid (Tx.MadeN wr base (following a 6) gb2 cb2) := HM.out
          have HNu : Hid (Tx.Nums wr wr.heap.size (some ⟨gb2, 0, none⟩) 6 (following a 6)) := by have h := HM.out.nums; rw [following_length] at h; exact h
          have hl6 := Lib.hid (following_length a 6)
          have HTW : Hid (∀ j, j < 6 → Tx.unlikeB (following a 6 ++ [(following a 6)[j]?.getD 0]) = false) := fun j hj => following_twice a 6 j hj
          generalize following a 6 = fs at HU HM6 HNu hl6 HTW
          clear hU HM
          go_wp2_with fail
          refine (Tx.AllUnlike_impl _ _ _ fs _ HNu.out (by omega)).mono ?_
          rintro e w11 ⟨rfl, b11⟩
          rw [HU.out]
          have K11 := hK.go b11
          have HM11 := Lib.hid (HM6.out.below b11)
          have HB11 := Lib.hid (HB.out.kept K11.bel)
          have hs11 := b11.size
          clear b11 HM6 HNu
          go_wp2_with fail
          refine (Tx.pick_any _ _ _ _ 2 6 hn HB11.out (by omega) (by omega) (by omega) (by omega)).mono ?_
          rintro e w' ⟨⟨y, hy0, hy1, rfl⟩, rfl⟩
          obtain ⟨j, rfl⟩ := Int.eq_ofNat_of_zero_le hy0
          have hj : j < 6 := by omega
          have hcell : w11.cell? ⟨gb2, j, none⟩ = some (.int .i64 (fs[j]?.getD 0)) := by
            rw [HM11.out.own.cellAt j (by rw [hl6.out]; omega), List.getElem?_map, List.getElem?_eq_getElem (by rw [hl6.out]; exact hj)]; rfl
          have HT := Lib.hid (HTW.out j hj)
          clear HTW
          generalize fs[j]?.getD 0 = z at hcell HT
          have HO : Hid (w11.ownsRow base 2 1 (.slice (some ⟨gb2, 0, none⟩) 6 cb2) 6 (fs.map (Value.int .i64))) := by have h := HM11.out.own; rw [hl6.out] at h; exact h
          go_wp2_with (at_builtin; refine Tx.wpList_append_wanted rfl (.tmp 87) (.tmp 93) 27 rfl base 2 i0 (.int .i64 0) 1 8 Try.underlying27 hi hz0 hz1 hz2 rfl (by decide) _ _ _ rfl (HO.out.alloc _) ⟨w11.heap.size, 0, none⟩ 1 1 [.int .i64 z] rfl rfl (cell_one_new _ _ _) (by simp [Value.oneCell']) (by unfold maxLen; omega) (by omega) (by simp; omega) ?_; intro v' w12 hown' hgrow _; obtain ⟨gb', cb', rfl, hM'⟩ := Tx.MadeN.snoc (zs := fs) (by rw [hl6.out]; exact hown'); have HM' := Lib.hid hM'; have HGR := Lib.hid hgrow; clear hown' hgrow hM')
          have K12 : Tx.Kp w w12 := ⟨(K11.bel.alloc K11.bel.size _).grown HGR.out (by have := K11.bel.size; simp; omega) (fun j e => by have e1 := Option.some.inj e; dsimp only at e1; omega)⟩
          clear HGR
          have N12 : Tx.Nums w12 w12.heap.size (some ⟨gb', 0, none⟩) (fs.length + 1) (fs ++ [z]) := by have h := HM'.out.nums; rw [List.length_append] at h; exact h
          have H12 := Lib.hid N12
          have hfl : fs.length + 1 ≤ 1048576 := by rw [hl6.out]; omega
          clear N12
          refine (Tx.AllUnlike_impl _ _ _ (fs ++ [z]) _ H12.out hfl).mono ?_
          rintro e w13 ⟨rfl, b13⟩
          rw [HT.out]
          have K13 := K12.go b13
          clear b13
          go_wp2
          go_ret
          exact ⟨rfl, K13.bel⟩
    | true =>
      obtain ⟨hnd, hn0, hn1⟩ := Tx.nextB_true hnb
      have hdn : Tx.isDrawB (Tx.nextD x) = true := Tx.isDraw_iff.2 (by omega)
      have hle : ¬ Tx.nextD x ≤ x := by omega
      have HND := Lib.hid hnd
      clear hnd
      go_wp2_with fail
      refine (Tx.IsDraw_impl _ _).mono ?_
      rintro e w7 ⟨rfl, b7⟩
      rw [hdn]
      have K7 := K6.go b7
      have HB7 := Lib.hid (HB6.out.kept b7)
      clear K6 HB6 b7
      go_wp2_with fail
      have K8 := K7.go ((Below.refl _ w7).alloc (Nat.le_refl _) (.cells #[] 2))
      have HB8 := Lib.hid (HB7.out.kept ((Below.refl _ w7).alloc (Nat.le_refl _) (.cells #[] 2)))
      have M8 := Lib.hid (Tx.MadeN.new w7)
      have hsz : w7.heap.size ≤ (w7.alloc (.cells #[] 2)).heap.size := by simp
      have hbase : w.heap.size ≤ w7.heap.size := K7.bel.size
      generalize w7.heap.size = base at M8 hsz hbase ⊢
      generalize w7.alloc (.cells #[] 2) = w8 at K8 HB8 M8 hsz ⊢
      clear K7 HB7 hnb hdn
      refine (Tx.pick_any _ _ _ _ 1 1000 hn HB8.out (by omega) (by omega) (by omega) (by omega)).mono ?_
      rintro e w' ⟨⟨a, ha0, ha1, rfl⟩, rfl⟩
      have G0 : Hid (Going w base a 0 base 0 (.slice (some ⟨base, 0, none⟩) 0 0) w8) := ⟨rfl, M8.out, K8⟩
      clear M8
      go_wp2
      go_loopw [9, 10, 11] (fun v at_ i wr => ∃ k gb cb : Nat, i = .int .i64 k ∧ k ≤ 6 ∧ at_ = .int .i64 (a + k) ∧ Going w base a k gb cb v wr) (fun _ _ i _ => 6 - (intOf i).toNat)
      case atStart => exact ⟨0, base, 0, rfl, by omega, by simp, G0.out⟩
      case round =>
        obtain ⟨k, gb2, cb2, rfl, hk6, rfl, rfl, hM, hK⟩ := hrel
        have HM := Lib.hid hM
        obtain ⟨hgb1, hgb2⟩ := hM.base
        clear hM
        by_cases hk : k < 6
        · have e1 : Tx.nextB (a + k) = true := by unfold Tx.nextB; rw [Bool.and_eq_true, decide_eq_true_iff, decide_eq_true_iff]; omega
          have e2 := (Tx.nextB_true e1).1
          have E1 := Lib.hid e1
          have E2 := Lib.hid e2
          clear e1 e2
          go_wp2_with fail
          refine (Tx.NextDraw_impl _ (by omega) _).mono ?_
          rintro e w9 ⟨rfl, b9⟩
          rw [E1.out, E2.out]
          have HM9 := Lib.hid (HM.out.below b9)
          have K9 := hK.go b9
          have hs9 := b9.size
          clear b9
          have hML : (following a k).length ≤ 6 := by rw [following_length]; exact hk6
          have HM9' : Hid (w9.ownsRow base 2 1 (.slice (some ⟨gb2, 0, none⟩) k cb2) k ((following a k).map (Value.int .i64))) := by have h := HM9.out.own; rw [following_length] at h; exact h
          go_wp2_with (at_builtin; refine wpList_append_own _ rfl _ _ 27 rfl base 2 i0 (.int .i64 0) 1 8 Try.underlying27 hi hz0 hz1 hz2 rfl (by decide) _ _ _ rfl (HM9'.out.alloc _) ⟨w9.heap.size, 0, none⟩ 1 1 [.int .i64 (a + k + 1)] rfl rfl (cell_one_new _ _ _) (by simp [Value.oneCell']) (by unfold maxLen; omega) (by omega) (by simp; omega) ?_; intro v' w10 hown' hgrow _; obtain ⟨gb', cb', rfl, hM'⟩ := going_snoc hown'; have HM' := Lib.hid hM'; have HGR := Lib.hid hgrow; clear hown' hgrow hM')
          have K10 : Tx.Kp w w10 := ⟨(K9.bel.alloc K9.bel.size _).grown HGR.out (by have := K9.bel.size; simp; omega) (fun j e => by have e1 := Option.some.inj e; dsimp only at e1; omega)⟩
          clear HGR
          go_roundw
          case rel => exact ⟨k + 1, gb', cb', by go_num, by omega, by go_num, rfl, HM'.out, K10⟩
          case measure => simp [intOf]; omega
        · obtain rfl : k = 6 := by omega
          have hU := following_unlike a 6
          have HU := Lib.hid hU
          have HM6 : Hid (Tx.MadeN wr base (following a 6) gb2 cb2) := HM.out
          have HNu : Hid (Tx.Nums wr wr.heap.size (some ⟨gb2, 0, none⟩) 6 (following a 6)) := by have h := HM.out.nums; rw [following_length] at h; exact h
          have hl6 := Lib.hid (following_length a 6)
          have HTW : Hid (∀ j, j < 6 → Tx.unlikeB (following a 6 ++ [(following a 6)[j]?.getD 0]) = false) := fun j hj => following_twice a 6 j hj
          generalize following a 6 = fs at HU HM6 HNu hl6 HTW
          clear hU HM
          go_wp2_with fail
          refine (Tx.AllUnlike_impl _ _ _ fs _ HNu.out (by omega)).mono ?_
          rintro e w11 ⟨rfl, b11⟩
          rw [HU.out]
          have K11 := hK.go b11
          have HM11 := Lib.hid (HM6.out.below b11)
          have HB11 := Lib.hid (HB.out.kept K11.bel)
          have hs11 := b11.size
          clear b11 HM6 HNu
          go_wp2_with fail
          refine (Tx.pick_any _ _ _ _ 2 6 hn HB11.out (by omega) (by omega) (by omega) (by omega)).mono ?_
          rintro e w' ⟨⟨y, hy0, hy1, rfl⟩, rfl⟩
          obtain ⟨j, rfl⟩ := Int.eq_ofNat_of_zero_le hy0
          have hj : j < 6 := by omega
          have hcell : w11.cell? ⟨gb2, j, none⟩ = some (.int .i64 (fs[j]?.getD 0)) := by
            rw [HM11.out.own.cellAt j (by rw [hl6.out]; omega), List.getElem?_map, List.getElem?_eq_getElem (by rw [hl6.out]; exact hj)]; rfl
          have HT := Lib.hid (HTW.out j hj)
          clear HTW
          generalize fs[j]?.getD 0 = z at hcell HT
          have HO : Hid (w11.ownsRow base 2 1 (.slice (some ⟨gb2, 0, none⟩) 6 cb2) 6 (fs.map (Value.int .i64))) := by have h := HM11.out.own; rw [hl6.out] at h; exact h
          go_wp2_with (at_builtin; refine Tx.wpList_append_wanted rfl (.tmp 87) (.tmp 93) 27 rfl base 2 i0 (.int .i64 0) 1 8 Try.underlying27 hi hz0 hz1 hz2 rfl (by decide) _ _ _ rfl (HO.out.alloc _) ⟨w11.heap.size, 0, none⟩ 1 1 [.int .i64 z] rfl rfl (cell_one_new _ _ _) (by simp [Value.oneCell']) (by unfold maxLen; omega) (by omega) (by simp; omega) ?_; intro v' w12 hown' hgrow _; obtain ⟨gb', cb', rfl, hM'⟩ := Tx.MadeN.snoc (zs := fs) (by rw [hl6.out]; exact hown'); have HM' := Lib.hid hM'; have HGR := Lib.hid hgrow; clear hown' hgrow hM')
          have K12 : Tx.Kp w w12 := ⟨(K11.bel.alloc K11.bel.size _).grown HGR.out (by have := K11.bel.size; simp; omega) (fun j e => by have e1 := Option.some.inj e; dsimp only at e1; omega)⟩
          clear HGR
          have N12 : Tx.Nums w12 w12.heap.size (some ⟨gb', 0, none⟩) (fs.length + 1) (fs ++ [z]) := by have h := HM'.out.nums; rw [List.length_append] at h; exact h
          have H12 := Lib.hid N12
          have hfl : fs.length + 1 ≤ 1048576 := by rw [hl6.out]; omega
          clear N12
          refine (Tx.AllUnlike_impl _ _ _ (fs ++ [z]) _ H12.out hfl).mono ?_
          rintro e w13 ⟨rfl, b13⟩
          rw [HT.out]
          have K13 := K12.go b13
          clear b13
          go_wp2
          go_ret
          exact ⟨rfl, K13.bel⟩

theorem own : ownKnob Try.prog.godebug = none := by kernel_rfl
theorem laidOut : laidOutB Try.prog = true := by kernel_rfl

set_option maxRecDepth 100000 in
theorem lifted (os : Os) (started : os.Started) (H : Type) (enc : TypeId × Value → H) :
    ReturnsInHanded {} Try.checked os 3 .any (Rows.fnDrawsSpec.pre6 enc Try.prog Try.f3 Rows.fnDrawsRow.domain false) (Rows.fnDrawsSpec.post enc Try.prog Try.f3 false true false false) := by
  refine returnsInHanded_of_change (C := Try.checked) own started (by kernel_rfl) Try.func3
    (ChangeSpec.witness6 (enc := enc) (C := Try.checked) false ⟨#[], #[.slice none 0 0], []⟩ 8 (by kernel_rfl) (by kernel_rfl) (by kernel_rfl) (by kernel_rfl)) ?_
  intro W base args ds gs before hval0 hW hcnd _
  have hval : ∀ (j : Nat) t v, Try.f3.params[j]? = some t → args[j]? = some v → Value.okWide Try.prog W .any base t v := hval0
  have hW' := hW
  obtain ⟨p, q, hA0, hV, rfl, hfz, hnd⟩ := hW
  have hA : DataW.TrodAll enc Try.prog W 0 (fun _ => true) true Try.f3.params.toList args.toList ds p := hA0
  rw [Try.params3] at hA hval
  obtain ⟨v0, vs0, d0, ds0, p0, q0, hargs, rfl, rfl, h0, r0⟩ := trodAll_cons hA
  obtain ⟨rfl, rfl, rfl⟩ := trodAll_nil r0
  obtain rfl : args = #[v0] := by cases args; simp_all
  obtain ⟨rfl, rfl⟩ := trodVars_none hV
  have k0 := h0
  have lt0 : ∀ x ∈ p0, x.block < W.heap.size := by obtain ⟨m, hm⟩ := k0; exact DataW.trod_lt m _ _ _ hm
  obtain ⟨a0, len0, cap0, rfl⟩ := okWide_slice Try.underlying22 (hval 0 22 v0 rfl rfl)
  have w0 : Tx.BytesAt W W.heap.size a0 len0 ∧ len0 ≤ maxLen := by
    obtain ⟨fuel, hf⟩ := h0
    rcases open_ints Try.underlying22 Try.underlying5 (by kernel_rfl) hf with ⟨hcs, _⟩ | ⟨x, l, c, zs, hcs, _, hl, hm, hz, _, hcell, hwz⟩
    · simp [Value.cells] at hcs
      obtain ⟨rfl, rfl, rfl⟩ := hcs
      exact ⟨fun h => absurd h (by omega), by unfold maxLen; omega⟩
    · simp [Value.cells] at hcs
      obtain ⟨rfl, rfl, rfl⟩ := hcs
      simp only [if_true] at hz
      exact ⟨Tx.bytesAt_of_ints (by omega) hcell fun n hn => bounds_u8 (hwz n hn), by omega⟩
  clear hA0 hval0
  refine (walk W a0 len0 cap0 w0.1 w0.2).mono fun e W' ⟨he, bel⟩ => ?_
  subst he
  exact ⟨_, rfl, _, _, _, [], _, [], hW', trodAll_mk1 (shut_bool Try.underlying4 _), (trodAll_cons_mk (Below.trod laidOut (by kernel_rfl) (of_decide_eq_true (by kernel_rfl)) k0 bel lt0) trodAll_mk0), rfl, bel.frame _, fun h => by cases h⟩

theorem over : Rows.fnDrawsRow.holds Try.pinned (OpenSpec.ofChange Rows.fnDrawsSpec) :=
  OpenClaim.holds_of_wide 3 Try.f3 rfl rfl rfl rfl rfl rfl rfl ⟨rfl, rfl, rfl, rfl, rfl⟩ rfl rfl rfl rfl rfl (by kernel_rfl) Try.func3 (by kernel_rfl)
    (of_decide_eq_true (by kernel_rfl)) (by unfold Func.isWrapper; first | (rw [if_pos (by decide +kernel)]; kernel_rfl) | (rw [if_neg (by decide +kernel)]; exact ⟨rfl, rfl⟩))
    (fun os started H enc _ => lifted os started H enc)

end Go.Proofs.Ytgbebcnodlnkgaa.fnDraws

namespace Go.Proofs.Ytgbebcnodlnkgaa
theorem fnDraws_proved : Rows.FnDrawsSaid := fnDraws.over
#print axioms fnDraws_proved
end Go.Proofs.Ytgbebcnodlnkgaa

/-
  Plain facts: how the program asks which seats are right. No conditions.
  What IsDraw of the program answers: it turns nothing. No conditions.
  What the functions of chapter 3 of the program answer. No conditions.
  What the functions of chapter 4 of the program answer. No conditions.
  What the small functions of chapter 5 of the program answer (a row with its key embedded: what is promoted). No conditions.
  What SeatOk, NewSeat, LogOf and EarlyIn of the program answer. Condition: at most 1048576 words.
  What Put and Take of the program answer. No conditions.
  What the small functions behind Hears of the program answer. Conditions: at most 1048576 words; the library's table of powers of ten holds what its text lays in it.
  What Hears of the program answers. Conditions: at most 1048576 words; the library's table of powers of ten holds what its text lays in it.
-/
import Derived.Test.YtchdmmlkgglmcaaGreatDoorSeat0
import Derived.WalkKit
import Derived.Lib.Hide
import Derived.Test.YtchdmmlkgglmcaaGreatDoorDraws0
import Derived.Test.YtchdmmlkgglmcaaGreatDoorIn
import Derived.Test.YtchdmmlkgglmcaaGreatDoorProg
import Derived.Deep.RegionWith
import Derived.Deep.RegionHeld3
import Derived.BigQuiet
import Derived.Deep.QuietTactic
import Derived.Test.YtchdmmlkgglmcaaGreatDoorKey
import Derived.Test.YtchdmmlkgglmcaaGreatDoorBlk
import Derived.Test.YtchdmmlkgglmcaaGreatDoorEqV
import Derived.Test.YtchdmmlkgglmcaaGreatDoorBox
import Derived.Test.YtchdmmlkgglmcaaGreatDoorRow
import Derived.Test.YtchdmmlkgglmcaaGreatDoorSeat
import Derived.Test.YtchdmmlkgglmcaaGreatDoorSeat4
import Derived.Test.YtchdmmlkgglmcaaGreatDoorHears
import Derived.Test.YtchdmmlkgglmcaaGreatDoorRegionO
import Derived.Stop.Asserts
import Derived.Test.YtchdmmlkgglmcaaGreatDoorFmt
namespace Go.Proofs.YtchdmmlkgglmcaaGreatDoor.Tx

/-- As the program asks: its secret, its row behind the answer, its row ahead of it. -/
def pkB (s : SeatV) : Bool := if s.p == 1 then s.f.k.s == 0 else if s.p == 2 then s.f.k.s != 0 else if s.p == 3 then s.f.k.s != 0 else false
def fthB (s : SeatV) : Bool := rowOkB s.f && s.f.k.same (forthK s.f.k.s s.h s.d)
def erlB (s : SeatV) : Bool := if s.st == 1 && s.p == 3 then rowOkB s.e && s.e.k.same (earlyK s.f.k.s s.h) else s.e.isZ
theorem isZ_iff {r : RowV} (h : r.isZ = true) : r = .zero := by
  obtain ⟨⟨u, s, h1, a⟩, n⟩ := r
  simp only [RowV.isZ, Bool.and_eq_true, beq_iff_eq] at h
  obtain ⟨rfl, rfl, rfl, rfl, rfl⟩ := h
  rfl
theorem row_zero_ok : rowOkB .zero = true := by decide
theorem forth_nz {k : KeyV} {h d : Int} (hh : isDrawB h = true) (hd : isDrawB d = true) (hk : k.same (forthK k.s h d) = true) : k.same .zero = false := by
  have e := KeyV.same_iff.1 hk
  cases hb : keyOkB ⟨4, k.s, h, d⟩ with
  | true =>
    rw [forthK, rightK_yes hb] at e
    refine KeyV.same_not fun e0 => ?_
    have h1 := congrArg KeyV.u (e.symm.trans e0)
    simp [KeyV.zero] at h1
  | false =>
    rw [forthK, rightK_no hb] at e
    rw [e] at hb
    simp [keyOkB, KeyV.zero, inB, hh, hd] at hb
theorem pick_sec (p s : Int) : (inB p 1 3 && ((s == 0) == (p == 1))) = (if p == 1 then s == 0 else if p == 2 then s != 0 else if p == 3 then s != 0 else false) := by
  by_cases h1 : p = 1
  · subst h1; cases h : s == 0 <;> simp [inB]
  by_cases h2 : p = 2
  · subst h2; cases h : s == 0 <;> simp [inB, h, bne]
  by_cases h3 : p = 3
  · subst h3; cases h : s == 0 <;> simp [inB, h, bne]
  rw [inB_no (by omega), bne_int h1, bne_int h2, bne_int h3]; rfl
theorem seat_prog (s : SeatV) (n : Nat) : seatOkB s n = ((s.st == 1 || s.st == 2) && (isDrawB s.h && (isDrawB s.d && (pkB s && (fthB s && (erlB s && decide (n ≤ 60))))))) := by
  have hs := pick_sec s.p s.f.k.s
  have hz := fun hh hd hk => forth_nz (k := s.f.k) (h := s.h) (d := s.d) hh hd hk
  have he : s.e.isZ = true → rowOkB s.e = true := fun h => by rw [isZ_iff h]; exact row_zero_ok
  unfold seatOkB fthB erlB
  rw [show pkB s = _ from hs.symm]
  generalize (s.st == 1 || s.st == 2) = a0
  generalize isDrawB s.h = a1 at *
  generalize isDrawB s.d = a2 at *
  generalize inB s.p 1 3 = a3
  generalize rowOkB s.e = a4 at *
  generalize rowOkB s.f = a5
  generalize decide (n ≤ 60) = a6
  generalize KeyV.same s.f.k .zero = a7 at *
  generalize KeyV.same s.f.k (forthK s.f.k.s s.h s.d) = a8 at *
  generalize ((s.f.k.s == 0) == (s.p == 1)) = a9
  generalize KeyV.same s.e.k (earlyK s.f.k.s s.h) = b0
  generalize RowV.isZ s.e = b1 at *
  generalize (s.st == 1 && s.p == 3) = b2
  clear hs
  cases a1 <;> cases a2 <;> simp
  cases a8 <;> simp
  have h7 : a7 = false := hz rfl rfl rfl
  subst h7
  cases b2
  · cases b1
    · simp
    · have h4 : a4 = true := he rfl
      subst h4
      cases a0 <;> cases a3 <;> cases a5 <;> cases a6 <;> cases a9 <;> rfl
  · cases a0 <;> cases a3 <;> cases a4 <;> cases a5 <;> cases a6 <;> cases a9 <;> cases b0 <;> rfl
/-- A new seat that is right was asked for with what goes together. -/
theorem new_goes {h d p s : Int} (e : seatOkB (newSeatRaw h d p s) 0 = true) : goesP p s = true := by
  rw [seat_prog] at e
  simp only [Bool.and_eq_true] at e
  obtain ⟨_, e1, e2, e3, e4, _⟩ := e
  replace e1 : isDrawB h = true := e1
  replace e2 : isDrawB d = true := e2
  have hf : (forthK s h d).same (forthK (forthK s h d).s h d) = true := by
    have h1 := e4
    simp only [fthB, Bool.and_eq_true] at h1
    exact h1.2
  have hnz := forth_nz e1 e2 hf
  cases hb : keyOkB ⟨4, s, h, d⟩ with
  | false => rw [forthK, rightK_no hb, KeyV.same_self] at hnz; cases hnz
  | true =>
    have hs : (forthK s h d).s = s := by rw [forthK, rightK_yes hb]
    have e5 : pkB (newSeatRaw h d p s) = (if p == 1 then s == 0 else if p == 2 then s != 0 else if p == 3 then s != 0 else false) := by
      show (if p == 1 then (forthK s h d).s == 0 else if p == 2 then (forthK s h d).s != 0 else if p == 3 then (forthK s h d).s != 0 else false) = _
      rw [hs]
    rw [e5] at e3
    have hr : inB s 0 100000 = true := by
      simp only [keyOkB, Bool.and_eq_true] at hb
      exact hb.2.1
    have hd' : s ≠ 0 → isDrawB s = true := fun hn => by
      have h1 := inB_true hr
      exact isDraw_iff.2 (by omega)
    rw [goesP]
    by_cases h1 : p = 1
    · rw [beq_int h1] at e3 ⊢; exact e3
    · rw [bne_int h1] at e3 ⊢
      by_cases h2 : p = 2
      · rw [beq_int h2] at e3 ⊢
        simp only [Bool.false_eq_true, if_false, if_true, bne_iff_ne] at e3
        simp [hd' (by simpa using e3)]
      · rw [bne_int h2] at e3 ⊢
        by_cases h3 : p = 3
        · rw [beq_int h3] at e3 ⊢
          simp only [Bool.false_eq_true, if_false, if_true, bne_iff_ne] at e3
          simp [hd' (by simpa using e3)]
        · rw [bne_int h3] at e3
          simp at e3
theorem newB_raw (h d p s : Int) : newSeatB h d p s = seatOkB (newSeatRaw h d p s) 0 := by
  rw [newSeatB]
  cases e : seatOkB (newSeatRaw h d p s) 0 with
  | false => simp
  | true => rw [new_goes e]; rfl

end Go.Proofs.YtchdmmlkgglmcaaGreatDoor.Tx
namespace Go.Proofs.YtchdmmlkgglmcaaGreatDoor.Tx
open Go.RowKit

theorem isRight_any (n : Int) (w : World) : Calls Tryz.prog 60 #[.int .i64 n] w fun e w' => e = .returned (.bool (isDrawB n)) ∧ w = w' := by
  by_cases h1 : 1 ≤ n <;> by_cases h2 : n ≤ 100000
  all_goals
    go_enter Tryz.func60, Tryz.ntmps60
    go_wp2
    go_ret
    exact ⟨by simp [isDrawB, h1, h2], rfl⟩

theorem IsDraw_same (n : Int) (w : World) : Calls Tryz.prog 36 #[.int .i64 n] w fun e w' => e = .returned (.bool (isDrawB n)) ∧ w = w' := by
  generalize hb : isDrawB n = b
  have hc := isRight_any n
  rw [hb] at hc
  go_enter Tryz.func36, Tryz.ntmps36
  go_wp2_with (go_at_call 60; refine (hc _).mono ?_; rintro e w' ⟨rfl, rfl⟩)
  go_ret
  exact ⟨rfl, rfl⟩

theorem IsDraw_impl (n : Int) (w : World) : Calls Tryz.prog 36 #[.int .i64 n] w fun e w' => e = .returned (.bool (isDrawB n)) ∧ Below w.heap.size w w' :=
  (IsDraw_same n w).mono fun _ _ ⟨he, hw⟩ => ⟨he, hw ▸ Below.refl _ _⟩

end Go.Proofs.YtchdmmlkgglmcaaGreatDoor.Tx
namespace Go.Proofs.YtchdmmlkgglmcaaGreatDoor.Tx
open Go.RowKit

/-- What a number of a key is: none (0), a draw (1), wrong (2). -/
def partZ (n : Int) : Int := if n = 0 then 0 else if isDrawB n then 1 else 2

theorem partOf_any (n : Int) (w : World) : Calls Tryz.prog 79 #[.int .i64 n] w fun e w' => e = .returned (.int .i64 (partZ n)) ∧ w = w' := by
  by_cases h0 : n = 0
  · have HR : Hid (partZ n = 0) := by show _ = _; simp [partZ, h0]
    have hb := beq_int h0
    clear h0
    go_enter Tryz.func79, Tryz.ntmps79
    go_wp2
    go_ret
    exact ⟨by rw [HR.out]; rfl, rfl⟩
  · have hb := bne_int h0
    cases hd : isDrawB n with
    | false =>
      have HR : Hid (partZ n = 2) := by show _ = _; simp [partZ, h0, hd]
      have hc := IsDraw_same n
      rw [hd] at hc
      clear h0 hd
      go_enter Tryz.func79, Tryz.ntmps79
      go_wp2_with (go_at_call 36; refine (hc _).mono ?_; rintro e w' ⟨rfl, rfl⟩)
      go_ret
      exact ⟨by rw [HR.out]; rfl, rfl⟩
    | true =>
      have HR : Hid (partZ n = 1) := by show _ = _; simp [partZ, h0, hd]
      have hc := IsDraw_same n
      rw [hd] at hc
      clear h0 hd
      go_enter Tryz.func79, Tryz.ntmps79
      go_wp2_with (go_at_call 36; refine (hc _).mono ?_; rintro e w' ⟨rfl, rfl⟩)
      go_ret
      exact ⟨by rw [HR.out]; rfl, rfl⟩

/-- What a use wants Hello and Answer to be, and whether it is one. -/
def wantH (u : Int) : Int := if inB u 1 5 then 1 else 0
def wantA (u : Int) : Int := if inB u 3 5 then 1 else 0

theorem partsOfUse_any (u : Int) (w : World) : Calls Tryz.prog 78 #[.int .i64 u] w fun e w' => e = .returned (.tuple #[.agg #[.int .i64 (wantH u), .int .i64 (wantA u)], .bool (inB u 1 6)]) ∧ Below w.heap.size w w' := by
  have HB : ∀ x y : Value, Hid (Below w.heap.size w (w.alloc (.cells #[x, y] 116))) := fun _ _ => (Below.refl _ w).alloc (Nat.le_refl _) _
  by_cases h1 : u = 1
  · subst h1
    go_enter Tryz.func78, Tryz.ntmps78
    go_wp2
    exact bodyPost_ret (v := .tuple #[.agg #[.int .i64 1, .int .i64 0], .bool true]) (by simp [results, Tryz.f78, go_sem]) rfl ⟨rfl, (HB _ _).out⟩
  by_cases h2 : u = 2
  · subst h2
    go_enter Tryz.func78, Tryz.ntmps78
    go_wp2
    exact bodyPost_ret (v := .tuple #[.agg #[.int .i64 1, .int .i64 0], .bool true]) (by simp [results, Tryz.f78, go_sem]) rfl ⟨rfl, (HB _ _).out⟩
  by_cases h3 : u = 3
  · subst h3
    go_enter Tryz.func78, Tryz.ntmps78
    go_wp2
    exact bodyPost_ret (v := .tuple #[.agg #[.int .i64 1, .int .i64 1], .bool true]) (by simp [results, Tryz.f78, go_sem]) rfl ⟨rfl, (HB _ _).out⟩
  by_cases h4 : u = 4
  · subst h4
    go_enter Tryz.func78, Tryz.ntmps78
    go_wp2
    exact bodyPost_ret (v := .tuple #[.agg #[.int .i64 1, .int .i64 1], .bool true]) (by simp [results, Tryz.f78, go_sem]) rfl ⟨rfl, (HB _ _).out⟩
  by_cases h5 : u = 5
  · subst h5
    go_enter Tryz.func78, Tryz.ntmps78
    go_wp2
    exact bodyPost_ret (v := .tuple #[.agg #[.int .i64 1, .int .i64 1], .bool true]) (by simp [results, Tryz.f78, go_sem]) rfl ⟨rfl, (HB _ _).out⟩
  by_cases h6 : u = 6
  · subst h6
    go_enter Tryz.func78, Tryz.ntmps78
    go_wp2
    exact bodyPost_ret (v := .tuple #[.agg #[.int .i64 0, .int .i64 0], .bool true]) (by simp [results, Tryz.f78, go_sem]) rfl ⟨rfl, (HB _ _).out⟩
  have HR : Hid (wantH u = 0 ∧ wantA u = 0 ∧ inB u 1 6 = false) := by
    have e1 : inB u 1 6 = false := by simp only [inB, Bool.and_eq_false_iff, decide_eq_false_iff_not]; omega
    have e2 : inB u 1 5 = false := by simp only [inB, Bool.and_eq_false_iff, decide_eq_false_iff_not]; omega
    have e3 : inB u 3 5 = false := by simp only [inB, Bool.and_eq_false_iff, decide_eq_false_iff_not]; omega
    exact ⟨by simp [wantH, e2], by simp [wantA, e3], e1⟩
  have b1 := bne_int h1
  have b2 := bne_int h2
  have b3 := bne_int h3
  have b4 := bne_int h4
  have b5 := bne_int h5
  have b6 := bne_int h6
  clear h1 h2 h3 h4 h5 h6
  go_enter Tryz.func78, Tryz.ntmps78
  go_wp2
  exact bodyPost_ret (v := .tuple #[.agg #[.int .i64 0, .int .i64 0], .bool false]) (by simp [results, Tryz.f78, go_sem]) rfl ⟨by rw [HR.out.1, HR.out.2.1, HR.out.2.2], (HB _ _).out⟩

set_option maxHeartbeats 1000000 in
theorem parts_any (k : KeyV) (w : World) : Calls Tryz.prog 80 #[k.val] w fun e w' => e = .returned (.agg #[.int .i64 (partZ k.h), .int .i64 (partZ k.a)]) ∧ Below w.heap.size w w' := by
  obtain ⟨u, s, h, a⟩ := k
  unfold KeyV.val
  dsimp only
  have HB : ∀ x y : Value, Hid (Below w.heap.size w ((w.alloc (.cells #[.int .i64 u, .int .i64 s, .int .i64 h, .int .i64 a] 25)).alloc (.cells #[x, y] 116))) := fun _ _ => (((Below.refl _ w).alloc (Nat.le_refl _) _).alloc (by simp) _)
  go_enter Tryz.func80, Tryz.ntmps80
  go_wp2
  go_region_with (go_at_call 79; refine (partOf_any _ _).mono ?_; rintro e w' ⟨rfl, rfl⟩)
  all_goals
    go_wp2
    exact bodyPost_ret (v := .agg #[.int .i64 (partZ h), .int .i64 (partZ a)]) (by simp [results, Tryz.f80, go_sem]) rfl ⟨rfl, drewN_below (HB _ _).out 1⟩

theorem partZ_bad {s : Int} (h : inB s 0 100000 = false) : partZ s = 2 := by
  simp only [inB, Bool.and_eq_false_iff, decide_eq_false_iff_not] at h
  have h0 : s ≠ 0 := by omega
  have h1 : isDrawB s = false := by simp only [isDrawB, Bool.and_eq_false_iff, decide_eq_false_iff_not]; omega
  simp [partZ, h0, h1]
theorem partZ_good {s : Int} (h : inB s 0 100000 = true) : ∃ p, partZ s = p ∧ (p != 2) = true := by
  simp only [inB, Bool.and_eq_true, decide_eq_true_iff] at h
  by_cases h0 : s = 0
  · exact ⟨0, by simp [partZ, h0], rfl⟩
  · have h1 : isDrawB s = true := by simp only [isDrawB, Bool.and_eq_true, decide_eq_true_iff]; omega
    exact ⟨1, by simp [partZ, h0, h1], rfl⟩
theorem partZ_one {n : Int} : (partZ n = 1) ↔ isDrawB n = true := by
  by_cases h0 : n = 0
  · subst h0; simp [partZ, isDrawB]
  · cases h : isDrawB n <;> simp [partZ, h0, h]
theorem partZ_none {n : Int} : (partZ n = 0) ↔ n = 0 := by
  by_cases h0 : n = 0
  · subst h0; simp [partZ]
  · cases h : isDrawB n <;> simp [partZ, h0, h]
theorem keyOk_parts {u s h a : Int} (hu : inB u 1 6 = true) (hs : inB s 0 100000 = true) : keyOkB ⟨u, s, h, a⟩ = (partZ h == wantH u && partZ a == wantA u) := by
  have h15 : inB u 1 5 = !(u == 6) := by
    rw [Bool.eq_iff_iff]
    simp only [inB, Bool.and_eq_true, decide_eq_true_iff, Bool.not_eq_true', beq_eq_false_iff_ne] at hu ⊢
    omega
  unfold keyOkB wantH wantA
  dsimp only
  rw [hu, hs, h15]
  cases h6 : u == 6 with
  | true =>
    have h35 : inB u 3 5 = false := by rw [eq_of_beq h6]; rfl
    rw [h35, Bool.eq_iff_iff]
    simp [partZ_none]
  | false =>
    cases h35 : inB u 3 5
    · rw [Bool.eq_iff_iff]
      simp [partZ_none, partZ_one]
    · rw [Bool.eq_iff_iff]
      simp [partZ_one]

set_option maxHeartbeats 2000000 in
theorem KeyOk_impl (k : KeyV) (w : World) : Calls Tryz.prog 72 #[k.val] w fun e w' => e = .returned (.bool (keyOkB k)) ∧ Below w.heap.size w w' := by
  obtain ⟨u, s, h, a⟩ := k
  have HV : Hid (KeyV.val ⟨u, s, h, a⟩ = .agg #[.int .i64 u, .int .i64 s, .int .i64 h, .int .i64 a]) := rfl
  rw [HV.out]
  go_enter Tryz.func72, Tryz.ntmps72
  go_wp2_with fail
  refine (partsOfUse_any u _).mono ?_
  rintro e w1 ⟨rfl, hb⟩
  have hk0 := (hb.block w.heap.size (by simp)).trans (heap1 w _)
  have HB := Lib.hid (below_new1 hb)
  clear hb
  obtain ⟨wh, hwh⟩ : ∃ x, wantH u = x := ⟨_, rfl⟩
  obtain ⟨wa, hwa⟩ : ∃ x, wantA u = x := ⟨_, rfl⟩
  have HH := Lib.hid hwh
  have HA := Lib.hid hwa
  rw [hwh, hwa]
  clear hwh hwa
  obtain ⟨W, hW⟩ : ∃ W, w1.alloc (.cells #[.int .i64 wh, .int .i64 wa] 116) = W := ⟨_, rfl⟩
  have hk : W.heap[w.heap.size]? = _ := hW ▸ alloc_blk hk0
  have hp : W.heap[w1.heap.size]? = _ := hW ▸ heap1 w1 _
  have HW : Hid (Below w.heap.size w W) := hW ▸ HB.out.alloc HB.out.size _
  cases hu : inB u 1 6 with
  | false =>
    have HR : Hid (keyOkB ⟨u, s, h, a⟩ = false) := by show _ = _; simp [keyOkB, hu]
    clear hu hk0
    go_wp2
    clear hW hk hp
    go_quiet (fail)
    go_wp2
    go_ret
    exact ⟨by rw [HR.out]; rfl, drewN_below HW.out _⟩
  | true =>
    obtain ⟨⟨a0, a1, a2, a3⟩, p0, p1, p2, p3⟩ := blk4 hk
    obtain ⟨⟨b0, b1⟩, q0, q1⟩ := blk2 hp
    have hlt := Lib.hid (blk_in hp)
    have HP := Lib.hid hp
    cases hs : inB s 0 100000 with
    | false =>
      have HR : Hid (keyOkB ⟨u, s, h, a⟩ = false) := by show _ = _; simp [keyOkB, hu, hs]
      have hps := partOf_any s
      rw [partZ_bad hs] at hps
      clear hu hk0 hs hk hp
      go_wp2
      clear hW
      go_quiet ((go_at_call 79; refine Calls.quiet_of_same ((hps _).mono fun _ _ ⟨he, hw⟩ => ⟨he, hw.symm⟩)))
      go_wp2
      go_ret
      exact ⟨by rw [HR.out]; rfl, drewN_below HW.out _⟩
    | true =>
      obtain ⟨ps, hps0, hne⟩ := partZ_good hs
      have HR : Hid (keyOkB ⟨u, s, h, a⟩ = (partZ h == wh && partZ a == wa)) := by
        show _ = _
        rw [← HH.out, ← HA.out]
        exact keyOk_parts hu hs
      have hps := partOf_any s
      have heq := eq_two
      rw [hps0] at hps
      clear hu hk0 hs hk hp hps0
      go_wp2
      clear hW
      go_region_with (first | (go_at_call 79; refine (hps _).mono ?_; rintro e w' ⟨rfl, rfl⟩) | (go_at_call 80; refine (parts_any ⟨u, s, h, a⟩ _).mono ?_; rintro e w2 ⟨rfl, hb⟩; obtain ⟨⟨c0, c1⟩, _⟩ := blk2 ((hb.block w1.heap.size hlt.out).trans HP.out); have HB2 := Lib.hid hb; clear hb))
      all_goals
        go_wp2
        go_ret
        exact ⟨by rw [HR.out]; rfl, (drewN_below HW.out 1).trans (HB2.out.mono HW.out.size)⟩

set_option maxHeartbeats 1000000 in
theorem rightKey_any (k : KeyV) (w : World) : Calls Tryz.prog 57 #[k.val] w fun e w' => e = .returned (rightK k).val ∧ Below w.heap.size w w' := by
  obtain ⟨u, s, h, a⟩ := k
  have HV : Hid (KeyV.val ⟨u, s, h, a⟩ = .agg #[.int .i64 u, .int .i64 s, .int .i64 h, .int .i64 a]) := rfl
  rw [HV.out]
  go_enter Tryz.func57, Tryz.ntmps57
  go_wp2_with fail
  refine (KeyOk_impl ⟨u, s, h, a⟩ _).mono ?_
  rintro e w1 ⟨rfl, hb⟩
  obtain ⟨⟨a0, a1, a2, a3⟩, p0, p1, p2, p3⟩ := blk4 ((hb.block w.heap.size (by simp; omega)).trans (heap2a w _ _))
  obtain ⟨⟨b0, b1, b2, b3⟩, q0, q1, q2, q3⟩ := blk4 ((hb.block (w.heap.size + 1) (by simp)).trans (heap2b w _ _))
  have HB := Lib.hid hb
  clear hb
  cases hk : keyOkB ⟨u, s, h, a⟩ with
  | false =>
    go_wp2
    refine bodyPost_ret (v := (rightK ⟨u, s, h, a⟩).val) ?_ rfl ⟨rfl, below_set4 (below_new2 HB.out) (by omega) _ _ _ _⟩
    rw [rightK_no hk]
    obtain ⟨s0, s1, s2, s3⟩ := set4_cell (w := w1) (g := w.heap.size + 1) (fun i hi => by match i, hi with | 0, _ => rw [b0]; rfl | 1, _ => rw [b1]; rfl | 2, _ => rw [b2]; rfl | 3, _ => rw [b3]; rfl) (.int .i64 0) (.int .i64 0) (.int .i64 0) (.int .i64 0)
    simp [results, Tryz.f57, go_sem, s0, s1, s2, s3, KeyV.val, KeyV.zero]
  | true =>
    go_wp2
    refine bodyPost_ret (v := (rightK ⟨u, s, h, a⟩).val) ?_ rfl ⟨rfl, below_set4 (below_new2 HB.out) (by omega) _ _ _ _⟩
    rw [rightK_yes hk]
    obtain ⟨s0, s1, s2, s3⟩ := set4_cell (w := w1) (g := w.heap.size + 1) (fun i hi => by match i, hi with | 0, _ => rw [b0]; rfl | 1, _ => rw [b1]; rfl | 2, _ => rw [b2]; rfl | 3, _ => rw [b3]; rfl) (.int .i64 u) (.int .i64 s) (.int .i64 h) (.int .i64 a)
    simp [results, Tryz.f57, go_sem, s0, s1, s2, s3, KeyV.val]

set_option maxHeartbeats 1000000 in
theorem EarlyKey_impl (s h : Int) (w : World) : Calls Tryz.prog 30 #[.int .i64 s, .int .i64 h] w fun e w' => e = .returned (rightK ⟨1, s, h, 0⟩).val ∧ Below w.heap.size w w' := by
  go_enter Tryz.func30, Tryz.ntmps30
  go_wp2_with fail
  refine (rightKey_any ⟨1, s, h, 0⟩ _).mono ?_
  rintro e w1 ⟨rfl, hb⟩
  obtain ⟨⟨b0, b1, b2, b3⟩, q0, q1, q2, q3⟩ := blk4 ((hb.block w.heap.size (by simp)).trans (heap1 w _))
  have HB := Lib.hid hb
  clear hb
  obtain ⟨k', hk'⟩ : ∃ k', rightK ⟨1, s, h, 0⟩ = k' := ⟨_, rfl⟩
  have HK := Lib.hid hk'
  rw [hk']
  clear hk'
  obtain ⟨ku, ks, kh, ka⟩ := k'
  unfold KeyV.val
  go_wp2
  refine bodyPost_ret (v := .agg #[.int .i64 ku, .int .i64 ks, .int .i64 kh, .int .i64 ka]) ?_ rfl ⟨by rw [HK.out]; rfl, below_set4 (below_new1 HB.out) (Nat.le_refl _) _ _ _ _⟩
  obtain ⟨s0, s1, s2, s3⟩ := set4_cell (w := w1) (g := w.heap.size) (fun i hi => by match i, hi with | 0, _ => rw [b0]; rfl | 1, _ => rw [b1]; rfl | 2, _ => rw [b2]; rfl | 3, _ => rw [b3]; rfl) (.int .i64 ku) (.int .i64 ks) (.int .i64 kh) (.int .i64 ka)
  simp [results, Tryz.f30, go_sem, s0, s1, s2, s3]

set_option maxHeartbeats 1000000 in
theorem ForthKey_impl (s h a : Int) (w : World) : Calls Tryz.prog 29 #[.int .i64 s, .int .i64 h, .int .i64 a] w fun e w' => e = .returned (rightK ⟨4, s, h, a⟩).val ∧ Below w.heap.size w w' := by
  go_enter Tryz.func29, Tryz.ntmps29
  go_wp2_with fail
  refine (rightKey_any ⟨4, s, h, a⟩ _).mono ?_
  rintro e w1 ⟨rfl, hb⟩
  obtain ⟨⟨b0, b1, b2, b3⟩, q0, q1, q2, q3⟩ := blk4 ((hb.block w.heap.size (by simp)).trans (heap1 w _))
  have HB := Lib.hid hb
  clear hb
  obtain ⟨k', hk'⟩ : ∃ k', rightK ⟨4, s, h, a⟩ = k' := ⟨_, rfl⟩
  have HK := Lib.hid hk'
  rw [hk']
  clear hk'
  obtain ⟨ku, ks, kh, ka⟩ := k'
  unfold KeyV.val
  go_wp2
  refine bodyPost_ret (v := .agg #[.int .i64 ku, .int .i64 ks, .int .i64 kh, .int .i64 ka]) ?_ rfl ⟨by rw [HK.out]; rfl, below_set4 (below_new1 HB.out) (Nat.le_refl _) _ _ _ _⟩
  obtain ⟨s0, s1, s2, s3⟩ := set4_cell (w := w1) (g := w.heap.size) (fun i hi => by match i, hi with | 0, _ => rw [b0]; rfl | 1, _ => rw [b1]; rfl | 2, _ => rw [b2]; rfl | 3, _ => rw [b3]; rfl) (.int .i64 ku) (.int .i64 ks) (.int .i64 kh) (.int .i64 ka)
  simp [results, Tryz.f29, go_sem, s0, s1, s2, s3]


end Go.Proofs.YtchdmmlkgglmcaaGreatDoor.Tx
namespace Go.Proofs.YtchdmmlkgglmcaaGreatDoor.Tx
open Go.RowKit

theorem isNo_any (n : Int) (w : World) : Calls Tryz.prog 83 #[.int .i64 n] w fun e w' => e = .returned (.bool (inB n 0 1000)) ∧ w = w' := by
  by_cases h1 : 0 ≤ n <;> by_cases h2 : n ≤ 1000
  all_goals
    go_enter Tryz.func83, Tryz.ntmps83
    go_wp2
    go_ret
    exact ⟨by simp [inB, h1, h2], rfl⟩

set_option maxHeartbeats 1000000 in
theorem fitFor_carry (b : BoxV) (w : World) : Calls Tryz.prog 113 #[b.val, .int .i64 1] w fun e w' => e = .returned (.bool (boxOkB b)) ∧ Below w.heap.size w w' := by
  obtain ⟨⟨u, s, h, a⟩, no, t, sp⟩ := b
  have HV : Hid (BoxV.val ⟨⟨u, s, h, a⟩, no, t, sp⟩ = .agg #[.int .i64 u, .int .i64 s, .int .i64 h, .int .i64 a, .int .i64 no, .string t, .bool sp]) := rfl
  rw [HV.out]
  go_enter Tryz.func113, Tryz.ntmps113
  go_wp2_with fail
  refine (KeyOk_impl ⟨u, s, h, a⟩ _).mono ?_
  rintro e w1 ⟨rfl, hb⟩
  obtain ⟨⟨a0, a1, a2, a3, a4, a5, a6⟩, _⟩ := blk7 ((hb.block w.heap.size (by simp)).trans (heap1 w _))
  have HB := Lib.hid (below_new1 hb)
  clear hb
  cases hk : keyOkB ⟨u, s, h, a⟩ with
  | false =>
    go_wp2
    go_ret
    exact ⟨by simp [boxOkB, hk], HB.out⟩
  | true =>
    go_wp2_with fail
    refine (isNo_any _ _).mono ?_
    rintro e w' ⟨rfl, rfl⟩
    cases hn : inB no 0 1000 with
    | false =>
      go_wp2
      go_ret
      exact ⟨by simp [boxOkB, hk, hn], HB.out⟩
    | true =>
      by_cases ht : t.size ≤ 40
      · have HR : Hid (boxOkB ⟨⟨u, s, h, a⟩, no, t, sp⟩ = true) := by show _ = _; simp [boxOkB, hk, hn, ht]
        have ht' : decide ((t.size : Int) ≤ 40) = true := decide_eq_true (by omega)
        go_wp2
        go_ret
        exact ⟨by rw [HR.out]; rfl, HB.out⟩
      · have HR : Hid (boxOkB ⟨⟨u, s, h, a⟩, no, t, sp⟩ = false) := by show _ = _; simp [boxOkB, hk, hn, ht]
        have ht' : decide ((t.size : Int) ≤ 40) = false := decide_eq_false (by omega)
        go_wp2
        go_ret
        exact ⟨by rw [HR.out]; rfl, HB.out⟩
set_option maxHeartbeats 1000000 in
theorem fitFor_open0 (b : BoxV) (w : World) : Calls Tryz.prog 113 #[(BoxV.mk b.k b.no b.t false).val, .int .i64 2] w fun e w' => e = .returned (.bool (boxOkB ⟨b.k, b.no, b.t, false⟩)) ∧ Below w.heap.size w w' := by
  obtain ⟨⟨u, s, h, a⟩, no, t, sp0⟩ := b
  dsimp only
  have HV : Hid (BoxV.val ⟨⟨u, s, h, a⟩, no, t, false⟩ = .agg #[.int .i64 u, .int .i64 s, .int .i64 h, .int .i64 a, .int .i64 no, .string t, .bool false]) := rfl
  rw [HV.out]
  go_enter Tryz.func113, Tryz.ntmps113
  go_wp2_with fail
  refine (KeyOk_impl ⟨u, s, h, a⟩ _).mono ?_
  rintro e w1 ⟨rfl, hb⟩
  obtain ⟨⟨a0, a1, a2, a3, a4, a5, a6⟩, _⟩ := blk7 ((hb.block w.heap.size (by simp)).trans (heap1 w _))
  have HB := Lib.hid (below_new1 hb)
  clear hb
  cases hk : keyOkB ⟨u, s, h, a⟩ with
  | false =>
    go_wp2
    go_ret
    exact ⟨by simp [boxOkB, hk], HB.out⟩
  | true =>
    go_wp2_with fail
    refine (isNo_any _ _).mono ?_
    rintro e w' ⟨rfl, rfl⟩
    cases hn : inB no 0 1000 with
    | false =>
      go_wp2
      go_ret
      exact ⟨by simp [boxOkB, hk, hn], HB.out⟩
    | true =>
      by_cases ht : t.size ≤ 40
      · have HR : Hid (boxOkB ⟨⟨u, s, h, a⟩, no, t, false⟩ = true) := by show _ = _; simp [boxOkB, hk, hn, ht]
        have ht' : decide ((t.size : Int) ≤ 40) = true := decide_eq_true (by omega)
        go_wp2
        go_ret
        exact ⟨by rw [HR.out]; rfl, HB.out⟩
      · have HR : Hid (boxOkB ⟨⟨u, s, h, a⟩, no, t, false⟩ = false) := by show _ = _; simp [boxOkB, hk, hn, ht]
        have ht' : decide ((t.size : Int) ≤ 40) = false := decide_eq_false (by omega)
        go_wp2
        go_ret
        exact ⟨by rw [HR.out]; rfl, HB.out⟩
theorem fitFor_spoilt (k : KeyV) (no : Int) (t : ByteArray) (w : World) : Calls Tryz.prog 113 #[(BoxV.mk k no t true).val, .int .i64 2] w fun e w' => e = .returned (.bool false) ∧ Below w.heap.size w w' := by
  obtain ⟨u, s, h, a⟩ := k
  have HV : Hid (BoxV.val ⟨⟨u, s, h, a⟩, no, t, true⟩ = .agg #[.int .i64 u, .int .i64 s, .int .i64 h, .int .i64 a, .int .i64 no, .string t, .bool true]) := rfl
  rw [HV.out]
  have HB : ∀ o : Obj, Hid (Below w.heap.size w (w.alloc o)) := fun _ => (Below.refl _ w).alloc (Nat.le_refl _) _
  go_enter Tryz.func113, Tryz.ntmps113
  go_wp2
  go_ret
  exact ⟨rfl, (HB _).out⟩

theorem fitFor_open (b : BoxV) (w : World) : Calls Tryz.prog 113 #[b.val, .int .i64 2] w fun e w' => e = .returned (.bool (!b.sp && boxOkB b)) ∧ Below w.heap.size w w' := by
  obtain ⟨k, no, t, sp⟩ := b
  cases sp
  · exact fitFor_open0 ⟨k, no, t, false⟩ w
  · exact fitFor_spoilt k no t w

set_option maxHeartbeats 2000000 in
theorem Opened_impl (b : BoxV) (k : KeyV) (no : Int) (w : World) : Calls Tryz.prog 120 #[b.val, k.val, .int .i64 no] w fun e w' => e = .returned (.tuple #[.string (openT b k no), .bool (openB b k no)]) ∧ Below w.heap.size w w' := by
  obtain ⟨⟨u, s, h, a⟩, n, t, sp⟩ := b
  obtain ⟨u', s', h', a'⟩ := k
  have HV : Hid (BoxV.val ⟨⟨u, s, h, a⟩, n, t, sp⟩ = .agg #[.int .i64 u, .int .i64 s, .int .i64 h, .int .i64 a, .int .i64 n, .string t, .bool sp]) := rfl
  have HV' : Hid (KeyV.val ⟨u', s', h', a'⟩ = .agg #[.int .i64 u', .int .i64 s', .int .i64 h', .int .i64 a']) := rfl
  rw [HV.out, HV'.out]
  go_enter Tryz.func120, Tryz.ntmps120
  go_wp2_with fail
  refine (fitFor_open ⟨⟨u, s, h, a⟩, n, t, sp⟩ _).mono ?_
  rintro e w1 ⟨rfl, hb⟩
  obtain ⟨⟨a0, a1, a2, a3, a4, a5, a6⟩, _⟩ := blk7 ((hb.block w.heap.size (by simp <;> omega)).trans (heap2a w _ _))
  obtain ⟨⟨b0, b1, b2, b3⟩, _⟩ := blk4 ((hb.block (w.heap.size + 1) (by simp)).trans (heap2b w _ _))
  have HB := Lib.hid (below_new2 hb)
  clear hb
  have hq := eq_agg u s h a u' s' h' a'
  cases hk : boxOkB ⟨⟨u, s, h, a⟩, n, t, sp⟩ with
  | false =>
    have HR : Hid (openB ⟨⟨u, s, h, a⟩, n, t, sp⟩ ⟨u', s', h', a'⟩ no = false) := by show _ = _; simp [openB, hk]
    have HT : Hid (openT ⟨⟨u, s, h, a⟩, n, t, sp⟩ ⟨u', s', h', a'⟩ no = ⟨#[]⟩) := by show _ = _; simp [openT, HR.out]
    go_wp2
    go_ret2
    exact ⟨by rw [HR.out, HT.out]; rfl, HB.out⟩
  | true =>
    cases sp with
    | true =>
      have HR : Hid (openB ⟨⟨u, s, h, a⟩, n, t, true⟩ ⟨u', s', h', a'⟩ no = false) := by show _ = _; simp [openB]
      have HT : Hid (openT ⟨⟨u, s, h, a⟩, n, t, true⟩ ⟨u', s', h', a'⟩ no = ⟨#[]⟩) := by show _ = _; simp [openT, HR.out]
      go_wp2
      go_ret2
      exact ⟨by rw [HR.out, HT.out]; rfl, HB.out⟩
    | false =>
      cases he : KeyV.same ⟨u, s, h, a⟩ ⟨u', s', h', a'⟩ with
      | false =>
        have HR : Hid (openB ⟨⟨u, s, h, a⟩, n, t, false⟩ ⟨u', s', h', a'⟩ no = false) := by show _ = _; simp [openB, he]
        have HT : Hid (openT ⟨⟨u, s, h, a⟩, n, t, false⟩ ⟨u', s', h', a'⟩ no = ⟨#[]⟩) := by show _ = _; simp [openT, HR.out]
        rw [he] at hq
        clear he
        go_wp2
        go_ret2
        exact ⟨by rw [HR.out, HT.out]; rfl, HB.out⟩
      | true =>
        rw [he] at hq
        by_cases hn : n = no
        · have HR : Hid (openB ⟨⟨u, s, h, a⟩, n, t, false⟩ ⟨u', s', h', a'⟩ no = true) := by show _ = _; unfold openB; dsimp only; rw [hk, he, beq_int hn]; rfl
          have HT : Hid (openT ⟨⟨u, s, h, a⟩, n, t, false⟩ ⟨u', s', h', a'⟩ no = t) := by show _ = _; simp [openT, HR.out]
          have hne : (n != no) = false := by simp [hn]
          clear he hn
          go_wp2
          go_ret2
          exact ⟨by rw [HR.out, HT.out]; rfl, HB.out⟩
        · have HR : Hid (openB ⟨⟨u, s, h, a⟩, n, t, false⟩ ⟨u', s', h', a'⟩ no = false) := by show _ = _; simp [openB, hn]
          have HT : Hid (openT ⟨⟨u, s, h, a⟩, n, t, false⟩ ⟨u', s', h', a'⟩ no = ⟨#[]⟩) := by show _ = _; simp [openT, HR.out]
          have hne : (n != no) = true := by simp [hn]
          clear he hn
          go_wp2
          go_ret2
          exact ⟨by rw [HR.out, HT.out]; rfl, HB.out⟩


end Go.Proofs.YtchdmmlkgglmcaaGreatDoor.Tx
namespace Go.Proofs.YtchdmmlkgglmcaaGreatDoor.Tx
open Go.RowKit

theorem isNoKey_any (k : KeyV) (w : World) : Calls Tryz.prog 81 #[k.val] w fun e w' => e = .returned (.bool (k.same .zero)) ∧ Below w.heap.size w w' := by
  obtain ⟨u, s, h, a⟩ := k
  have HV : Hid (KeyV.val ⟨u, s, h, a⟩ = .agg #[.int .i64 u, .int .i64 s, .int .i64 h, .int .i64 a]) := rfl
  rw [HV.out]
  have hq := eq_agg u s h a 0 0 0 0
  have HB0 : Hid (Below w.heap.size w (w.alloc (.cells #[.int .i64 u, .int .i64 s, .int .i64 h, .int .i64 a] 25))) := (Below.refl _ w).alloc (Nat.le_refl _) _
  obtain ⟨b, hb⟩ : ∃ b, KeyV.same ⟨u, s, h, a⟩ ⟨0, 0, 0, 0⟩ = b := ⟨_, rfl⟩
  rw [hb] at hq
  have HR : Hid (KeyV.same ⟨u, s, h, a⟩ .zero = b) := hb
  clear hb
  go_enter Tryz.func81, Tryz.ntmps81
  go_wp2
  go_ret
  exact ⟨by rw [HR.out]; rfl, HB0.out⟩

theorem isRightKey_any (k : KeyV) (w : World) : Calls Tryz.prog 82 #[k.val] w fun e w' => e = .returned (.bool (keyOkB k)) ∧ Below w.heap.size w w' := by
  obtain ⟨u, s, h, a⟩ := k
  have HV : Hid (KeyV.val ⟨u, s, h, a⟩ = .agg #[.int .i64 u, .int .i64 s, .int .i64 h, .int .i64 a]) := rfl
  rw [HV.out]
  go_enter Tryz.func82, Tryz.ntmps82
  go_wp2_with fail
  refine (KeyOk_impl ⟨u, s, h, a⟩ _).mono ?_
  rintro e w1 ⟨rfl, hb⟩
  have L1 := Lib.hid (below_new1 hb)
  clear hb
  go_wp2
  go_ret
  exact ⟨rfl, L1.out⟩

set_option maxHeartbeats 1000000 in
theorem rowRight_any (r : RowV) (w : World) : Calls Tryz.prog 75 #[r.val] w fun e w' => e = .returned (.bool (rowOkB r)) ∧ Below w.heap.size w w' := by
  obtain ⟨⟨u, s, h, a⟩, no⟩ := r
  have HV : Hid (RowV.val ⟨⟨u, s, h, a⟩, no⟩ = .agg #[.int .i64 u, .int .i64 s, .int .i64 h, .int .i64 a, .int .i64 no]) := rfl
  rw [HV.out]
  go_enter Tryz.func75, Tryz.ntmps75
  go_wp2_with fail
  refine (isNoKey_any ⟨u, s, h, a⟩ _).mono ?_
  rintro e w1 ⟨rfl, hb⟩
  have K1 := Lib.hid (blk_on hb (heap1 w _))
  have L1 := Lib.hid (below_new1 hb)
  clear hb
  cases hz : KeyV.same ⟨u, s, h, a⟩ .zero with
  | true =>
    have HR : Hid (rowOkB ⟨⟨u, s, h, a⟩, no⟩ = inB no 0 1000) := by show ((KeyV.same ⟨u, s, h, a⟩ .zero || _) && _) = _; rw [hz]; rfl
    obtain ⟨⟨a0, a1, a2, a3, a4⟩, _⟩ := blk5 K1.out
    go_wp2_with fail
    refine (isNo_any _ _).mono ?_
    rintro e w' ⟨rfl, rfl⟩
    obtain ⟨b, hb⟩ : ∃ b, inB no 0 1000 = b := ⟨_, rfl⟩
    rw [hb]
    have HRb := Lib.hid hb
    clear hb
    go_wp2
    go_ret
    exact ⟨by rw [HR.out, HRb.out]; rfl, L1.out⟩
  | false =>
    have HR : Hid (rowOkB ⟨⟨u, s, h, a⟩, no⟩ = (keyOkB ⟨u, s, h, a⟩ && inB no 0 1000)) := by show ((KeyV.same ⟨u, s, h, a⟩ .zero || _) && _) = _; rw [hz]; rfl
    obtain ⟨⟨a0, a1, a2, a3, a4⟩, _⟩ := blk5 K1.out
    go_wp2_with fail
    clear a0 a1 a2 a3 a4
    refine (isRightKey_any ⟨u, s, h, a⟩ _).mono ?_
    rintro e w2 ⟨rfl, b2⟩
    have K2 := Lib.hid (blk_on b2 K1.out)
    have L2 := Lib.hid (L1.out.trans (b2.mono L1.out.size))
    clear b2
    obtain ⟨⟨a0, a1, a2, a3, a4⟩, _⟩ := blk5 K2.out
    cases hk : keyOkB ⟨u, s, h, a⟩ with
    | false =>
      rw [hk] at HR
      go_wp2
      go_ret
      exact ⟨by rw [HR.out]; rfl, L2.out⟩
    | true =>
      rw [hk] at HR
      go_wp2_with fail
      refine (isNo_any _ _).mono ?_
      rintro e w' ⟨rfl, rfl⟩
      obtain ⟨b, hb⟩ : ∃ b, inB no 0 1000 = b := ⟨_, rfl⟩
      rw [hb]
      have HRb := Lib.hid hb
      clear hb
      go_wp2
      go_ret
      exact ⟨by rw [HR.out, HRb.out]; rfl, L2.out⟩

theorem keyed_any (r : RowV) (w : World) : Calls Tryz.prog 74 #[r.val] w fun e w' => e = .returned r.val ∧ Below w.heap.size w w' := by
  obtain ⟨⟨u, s, h, a⟩, no⟩ := r
  have HV : Hid (RowV.val ⟨⟨u, s, h, a⟩, no⟩ = .agg #[.int .i64 u, .int .i64 s, .int .i64 h, .int .i64 a, .int .i64 no]) := rfl
  rw [HV.out]
  go_enter Tryz.func74, Tryz.ntmps74
  go_wp2
  exact row_ret (cs := #[.int .i64 u, .int .i64 s, .int .i64 h, .int .i64 a, .int .i64 no]) rfl rfl (heap2b w _ _) Tryz.underlying107 rfl (by kernel_rfl) rfl ⟨rfl, ((Below.refl _ w).alloc (Nat.le_refl _) _).alloc (by simp) _⟩

theorem RowOk_impl (r : RowV) (w : World) : Calls Tryz.prog 62 #[r.val] w fun e w' => e = .returned (.bool (rowOkB r)) ∧ Below w.heap.size w w' := by
  obtain ⟨⟨u, s, h, a⟩, no⟩ := r
  have HV : Hid (RowV.val ⟨⟨u, s, h, a⟩, no⟩ = .agg #[.int .i64 u, .int .i64 s, .int .i64 h, .int .i64 a, .int .i64 no]) := rfl
  rw [HV.out]
  go_enter Tryz.func62, Tryz.ntmps62
  go_wp2_with fail
  refine (keyed_any ⟨⟨u, s, h, a⟩, no⟩ _).mono ?_
  rintro e w1 ⟨rfl, hb⟩
  have L1 := Lib.hid (below_new1 hb)
  clear hb
  rw [HV.out]
  go_wp2_with fail
  refine (rowRight_any ⟨⟨u, s, h, a⟩, no⟩ _).mono ?_
  rintro e w2 ⟨rfl, b2⟩
  have L2 := Lib.hid (L1.out.trans (b2.mono L1.out.size))
  clear b2
  go_wp2
  go_ret
  exact ⟨rfl, L2.out⟩

theorem goesOn_any (r : RowV) (w : World) : Calls Tryz.prog 118 #[r.val] w fun e w' => e = .returned (.bool (goesB r)) ∧ Below w.heap.size w w' := by
  obtain ⟨⟨u, s, h, a⟩, no⟩ := r
  have HV : Hid (RowV.val ⟨⟨u, s, h, a⟩, no⟩ = .agg #[.int .i64 u, .int .i64 s, .int .i64 h, .int .i64 a, .int .i64 no]) := rfl
  rw [HV.out]
  go_enter Tryz.func118, Tryz.ntmps118
  go_wp2_with fail
  refine (isNoKey_any ⟨u, s, h, a⟩ _).mono ?_
  rintro e w1 ⟨rfl, hb⟩
  have K1 := Lib.hid (blk_on hb (heap1 w _))
  have L1 := Lib.hid (below_new1 hb)
  clear hb
  obtain ⟨⟨a0, a1, a2, a3, a4⟩, _⟩ := blk5 K1.out
  cases hz : KeyV.same ⟨u, s, h, a⟩ .zero with
  | true =>
    have HR : Hid (goesB ⟨⟨u, s, h, a⟩, no⟩ = false) := by show (!KeyV.same ⟨u, s, h, a⟩ .zero && _) = _; rw [hz]; rfl
    go_wp2
    go_ret
    exact ⟨by rw [HR.out]; rfl, L1.out⟩
  | false =>
    have HR : Hid (goesB ⟨⟨u, s, h, a⟩, no⟩ = decide (no < 1000)) := by show (!KeyV.same ⟨u, s, h, a⟩ .zero && _) = _; rw [hz]; rfl
    go_wp2
    go_ret
    exact ⟨by rw [HR.out]; rfl, L1.out⟩

theorem rowNext_any (r : RowV) (h0 : 0 ≤ r.no) (h1 : r.no < 1000) (w : World) : Calls Tryz.prog 119 #[r.val] w fun e w' => e = .returned r.on.val ∧ Below w.heap.size w w' := by
  obtain ⟨⟨u, s, h, a⟩, no⟩ := r
  have HV : Hid (RowV.val ⟨⟨u, s, h, a⟩, no⟩ = .agg #[.int .i64 u, .int .i64 s, .int .i64 h, .int .i64 a, .int .i64 no]) := rfl
  rw [HV.out]
  dsimp only at h0 h1
  go_enter Tryz.func119, Tryz.ntmps119
  go_wp2
  exact row_ret (cs := #[.int .i64 u, .int .i64 s, .int .i64 h, .int .i64 a, .int .i64 (no + 1)]) rfl rfl (heap2b w _ _) Tryz.underlying27 rfl (by kernel_rfl) rfl ⟨rfl, ((Below.refl _ w).alloc (Nat.le_refl _) _).alloc (by simp) _⟩


set_option maxHeartbeats 1000000 in
theorem open_any (k : KeyV) (b : BoxV) (no : Int) (w : World) : Calls Tryz.prog 117 #[k.val, b.val, .int .i64 no] w fun e w' => e = .returned (.tuple #[.string (openT b k no), .bool (openB b k no)]) ∧ Below w.heap.size w w' := by
  obtain ⟨u, s, h, a⟩ := k
  obtain ⟨⟨xu, xs, xh, xa⟩, xn, xt, xp⟩ := b
  have HV : Hid (KeyV.val ⟨u, s, h, a⟩ = .agg #[.int .i64 u, .int .i64 s, .int .i64 h, .int .i64 a]) := rfl
  have HXV : Hid (BoxV.val ⟨⟨xu, xs, xh, xa⟩, xn, xt, xp⟩ = .agg #[.int .i64 xu, .int .i64 xs, .int .i64 xh, .int .i64 xa, .int .i64 xn, .string xt, .bool xp]) := rfl
  rw [HV.out, HXV.out]
  go_enter Tryz.func117, Tryz.ntmps117
  go_wp2_with fail
  refine (Opened_impl ⟨⟨xu, xs, xh, xa⟩, xn, xt, xp⟩ ⟨u, s, h, a⟩ no _).mono ?_
  rintro e w1 ⟨rfl, hb⟩
  have L1 := Lib.hid (below_new2 hb)
  clear hb
  go_wp2
  go_ret2
  exact ⟨rfl, L1.out⟩

end Go.Proofs.YtchdmmlkgglmcaaGreatDoor.Tx
namespace Go.Proofs.YtchdmmlkgglmcaaGreatDoor.Tx
open Go.RowKit

set_option maxRecDepth 100000 in
set_option maxHeartbeats 16000000 in
theorem secret_any (s : SeatV) (A : Option Addr) (n cap : Nat) (w : World) : Calls Tryz.prog 61 #[s.val A n cap] w fun e w' => e = .returned (.int .i64 s.f.k.s) ∧ Below w.heap.size w w' := by
  obtain ⟨st, sh, sd, sp, ⟨⟨eu, es, eh, ea⟩, en⟩, ⟨⟨fu, fs, fh, fa⟩, fn⟩⟩ := s
  have HV : Hid (SeatV.val ⟨st, sh, sd, sp, ⟨⟨eu, es, eh, ea⟩, en⟩, ⟨⟨fu, fs, fh, fa⟩, fn⟩⟩ A n cap = .agg #[.int .i64 st, .int .i64 sh, .int .i64 sd, .int .i64 sp, .int .i64 eu, .int .i64 es, .int .i64 eh, .int .i64 ea, .int .i64 en, .int .i64 fu, .int .i64 fs, .int .i64 fh, .int .i64 fa, .int .i64 fn, .slice A n cap]) := rfl
  rw [HV.out]
  dsimp only
  clear HV
  obtain ⟨W0, hW0⟩ : ∃ W, w.alloc (.cells #[.int .i64 st, .int .i64 sh, .int .i64 sd, .int .i64 sp, .int .i64 eu, .int .i64 es, .int .i64 eh, .int .i64 ea, .int .i64 en, .int .i64 fu, .int .i64 fs, .int .i64 fh, .int .i64 fa, .int .i64 fn, .slice A n cap] 30) = W := ⟨_, rfl⟩
  have K0 : Hid (Below w.heap.size w W0) := by rw [← hW0]; exact (Below.refl _ w).alloc (Nat.le_refl _) _
  have S0 : Hid (W0.heap[w.heap.size]? = some (.cells #[.int .i64 st, .int .i64 sh, .int .i64 sd, .int .i64 sp, .int .i64 eu, .int .i64 es, .int .i64 eh, .int .i64 ea, .int .i64 en, .int .i64 fu, .int .i64 fs, .int .i64 fh, .int .i64 fa, .int .i64 fn, .slice A n cap] 30)) := by rw [← hW0]; exact heap1 w _
  go_enter Tryz.func61, Tryz.ntmps61
  obtain ⟨⟨a0, a1, a2, a3, a4, a5, a6, a7, a8, a9, a10, a11, a12, a13, a14⟩, _⟩ := blk15 S0.out
  go_wp2
  go_ret
  exact ⟨rfl, K0.out⟩

set_option maxRecDepth 100000 in
set_option maxHeartbeats 16000000 in
theorem rightState_any (s : SeatV) (A : Option Addr) (n cap : Nat) (w : World) : Calls Tryz.prog 35 #[s.val A n cap] w fun e w' => e = .returned (.bool (s.st == 1 || s.st == 2)) ∧ Below w.heap.size w w' := by
  obtain ⟨st, sh, sd, sp, ⟨⟨eu, es, eh, ea⟩, en⟩, ⟨⟨fu, fs, fh, fa⟩, fn⟩⟩ := s
  have HV : Hid (SeatV.val ⟨st, sh, sd, sp, ⟨⟨eu, es, eh, ea⟩, en⟩, ⟨⟨fu, fs, fh, fa⟩, fn⟩⟩ A n cap = .agg #[.int .i64 st, .int .i64 sh, .int .i64 sd, .int .i64 sp, .int .i64 eu, .int .i64 es, .int .i64 eh, .int .i64 ea, .int .i64 en, .int .i64 fu, .int .i64 fs, .int .i64 fh, .int .i64 fa, .int .i64 fn, .slice A n cap]) := rfl
  rw [HV.out]
  dsimp only
  clear HV
  obtain ⟨W0, hW0⟩ : ∃ W, w.alloc (.cells #[.int .i64 st, .int .i64 sh, .int .i64 sd, .int .i64 sp, .int .i64 eu, .int .i64 es, .int .i64 eh, .int .i64 ea, .int .i64 en, .int .i64 fu, .int .i64 fs, .int .i64 fh, .int .i64 fa, .int .i64 fn, .slice A n cap] 30) = W := ⟨_, rfl⟩
  have K0 : Hid (Below w.heap.size w W0) := by rw [← hW0]; exact (Below.refl _ w).alloc (Nat.le_refl _) _
  have S0 : Hid (W0.heap[w.heap.size]? = some (.cells #[.int .i64 st, .int .i64 sh, .int .i64 sd, .int .i64 sp, .int .i64 eu, .int .i64 es, .int .i64 eh, .int .i64 ea, .int .i64 en, .int .i64 fu, .int .i64 fs, .int .i64 fh, .int .i64 fa, .int .i64 fn, .slice A n cap] 30)) := by rw [← hW0]; exact heap1 w _
  go_enter Tryz.func35, Tryz.ntmps35
  obtain ⟨⟨a0, a1, a2, a3, a4, a5, a6, a7, a8, a9, a10, a11, a12, a13, a14⟩, _⟩ := blk15 S0.out
  cases h1 : st == 1
  ·
    go_wp2
    go_ret
    exact ⟨rfl, K0.out⟩
  ·
    go_wp2
    go_ret
    exact ⟨rfl, K0.out⟩

set_option maxRecDepth 100000 in
set_option maxHeartbeats 16000000 in
theorem rightSecret_any (s : SeatV) (A : Option Addr) (n cap : Nat) (w : World) : Calls Tryz.prog 37 #[s.val A n cap] w fun e w' => e = .returned (.bool (pkB s)) ∧ Below w.heap.size w w' := by
  obtain ⟨st, sh, sd, sp, ⟨⟨eu, es, eh, ea⟩, en⟩, ⟨⟨fu, fs, fh, fa⟩, fn⟩⟩ := s
  have HV : Hid (SeatV.val ⟨st, sh, sd, sp, ⟨⟨eu, es, eh, ea⟩, en⟩, ⟨⟨fu, fs, fh, fa⟩, fn⟩⟩ A n cap = .agg #[.int .i64 st, .int .i64 sh, .int .i64 sd, .int .i64 sp, .int .i64 eu, .int .i64 es, .int .i64 eh, .int .i64 ea, .int .i64 en, .int .i64 fu, .int .i64 fs, .int .i64 fh, .int .i64 fa, .int .i64 fn, .slice A n cap]) := rfl
  rw [HV.out]
  have cX : Hid (∀ w' : World, Calls Tryz.prog 61 #[.agg #[.int .i64 st, .int .i64 sh, .int .i64 sd, .int .i64 sp, .int .i64 eu, .int .i64 es, .int .i64 eh, .int .i64 ea, .int .i64 en, .int .i64 fu, .int .i64 fs, .int .i64 fh, .int .i64 fa, .int .i64 fn, .slice A n cap]] w' fun e w'' => e = .returned (.int .i64 fs) ∧ Below w'.heap.size w' w'') := fun w' => by exact secret_any ⟨st, sh, sd, sp, ⟨⟨eu, es, eh, ea⟩, en⟩, ⟨⟨fu, fs, fh, fa⟩, fn⟩⟩ A n cap w'
  clear HV
  unfold pkB
  dsimp only
  obtain ⟨W0, hW0⟩ : ∃ W, w.alloc (.cells #[.int .i64 st, .int .i64 sh, .int .i64 sd, .int .i64 sp, .int .i64 eu, .int .i64 es, .int .i64 eh, .int .i64 ea, .int .i64 en, .int .i64 fu, .int .i64 fs, .int .i64 fh, .int .i64 fa, .int .i64 fn, .slice A n cap] 30) = W := ⟨_, rfl⟩
  have K0 : Hid (Below w.heap.size w W0) := by rw [← hW0]; exact (Below.refl _ w).alloc (Nat.le_refl _) _
  have S0 : Hid (W0.heap[w.heap.size]? = some (.cells #[.int .i64 st, .int .i64 sh, .int .i64 sd, .int .i64 sp, .int .i64 eu, .int .i64 es, .int .i64 eh, .int .i64 ea, .int .i64 en, .int .i64 fu, .int .i64 fs, .int .i64 fh, .int .i64 fa, .int .i64 fn, .slice A n cap] 30)) := by rw [← hW0]; exact heap1 w _
  go_enter Tryz.func37, Tryz.ntmps37
  obtain ⟨⟨a0, a1, a2, a3, a4, a5, a6, a7, a8, a9, a10, a11, a12, a13, a14⟩, _⟩ := blk15 S0.out
  by_cases h1 : sp = 1
  ·
    have h1q : (sp == 1) = true := beq_int h1
    rw [h1q]
    clear h1
    go_wp2_with (refine wpList_load_row rfl 30 _ rfl (w.heap.size) rfl 30 _ (0, 0) _ S0.out Tryz.underlying30 rfl (by kernel_rfl) ?_)
    refine (cX.out _).mono ?_
    rintro e w1 ⟨rfl, hb⟩
    have S1 := Lib.hid (blk_on hb S0.out)
    have K1 := Lib.hid (K0.out.trans (hb.mono K0.out.size))
    clear hb S0 K0
    go_wp2
    go_ret
    exact ⟨rfl, K1.out⟩
  ·
    have h1q : (sp == 1) = false := bne_int h1
    rw [h1q]
    clear h1
    by_cases h2 : sp = 2
    ·
      have h2q : (sp == 2) = true := beq_int h2
      rw [h2q]
      clear h2
      go_wp2_with (refine wpList_load_row rfl 30 _ rfl (w.heap.size) rfl 30 _ (0, 0) _ S0.out Tryz.underlying30 rfl (by kernel_rfl) ?_)
      refine (cX.out _).mono ?_
      rintro e w1 ⟨rfl, hb⟩
      have S1 := Lib.hid (blk_on hb S0.out)
      have K1 := Lib.hid (K0.out.trans (hb.mono K0.out.size))
      clear hb S0 K0
      go_wp2
      go_ret
      exact ⟨rfl, K1.out⟩
    ·
      have h2q : (sp == 2) = false := bne_int h2
      rw [h2q]
      clear h2
      by_cases h3 : sp = 3
      ·
        have h3q : (sp == 3) = true := beq_int h3
        rw [h3q]
        clear h3
        go_wp2_with (refine wpList_load_row rfl 30 _ rfl (w.heap.size) rfl 30 _ (0, 0) _ S0.out Tryz.underlying30 rfl (by kernel_rfl) ?_)
        refine (cX.out _).mono ?_
        rintro e w1 ⟨rfl, hb⟩
        have S1 := Lib.hid (blk_on hb S0.out)
        have K1 := Lib.hid (K0.out.trans (hb.mono K0.out.size))
        clear hb S0 K0
        go_wp2
        go_ret
        exact ⟨rfl, K1.out⟩
      ·
        have h3q : (sp == 3) = false := bne_int h3
        rw [h3q]
        clear h3
        go_wp2
        go_ret
        exact ⟨rfl, K0.out⟩

set_option maxRecDepth 100000 in
set_option maxHeartbeats 16000000 in
theorem rightForth_any (s : SeatV) (A : Option Addr) (n cap : Nat) (w : World) : Calls Tryz.prog 38 #[s.val A n cap] w fun e w' => e = .returned (.bool (fthB s)) ∧ Below w.heap.size w w' := by
  obtain ⟨st, sh, sd, sp, ⟨⟨eu, es, eh, ea⟩, en⟩, ⟨⟨fu, fs, fh, fa⟩, fn⟩⟩ := s
  have HV : Hid (SeatV.val ⟨st, sh, sd, sp, ⟨⟨eu, es, eh, ea⟩, en⟩, ⟨⟨fu, fs, fh, fa⟩, fn⟩⟩ A n cap = .agg #[.int .i64 st, .int .i64 sh, .int .i64 sd, .int .i64 sp, .int .i64 eu, .int .i64 es, .int .i64 eh, .int .i64 ea, .int .i64 en, .int .i64 fu, .int .i64 fs, .int .i64 fh, .int .i64 fa, .int .i64 fn, .slice A n cap]) := rfl
  rw [HV.out]
  have cX : Hid (∀ w' : World, Calls Tryz.prog 61 #[.agg #[.int .i64 st, .int .i64 sh, .int .i64 sd, .int .i64 sp, .int .i64 eu, .int .i64 es, .int .i64 eh, .int .i64 ea, .int .i64 en, .int .i64 fu, .int .i64 fs, .int .i64 fh, .int .i64 fa, .int .i64 fn, .slice A n cap]] w' fun e w'' => e = .returned (.int .i64 fs) ∧ Below w'.heap.size w' w'') := fun w' => by exact secret_any ⟨st, sh, sd, sp, ⟨⟨eu, es, eh, ea⟩, en⟩, ⟨⟨fu, fs, fh, fa⟩, fn⟩⟩ A n cap w'
  obtain ⟨⟨ku, ks, kh, ka⟩, hk⟩ : ∃ x, forthK fs sh sd = x := ⟨_, rfl⟩
  have cK' := fun w' => ForthKey_impl fs sh sd w'
  have e1 : rightK ⟨4, fs, sh, sd⟩ = forthK fs sh sd := rfl
  rw [e1, hk] at cK'
  have cK : Hid (∀ w' : World, Calls Tryz.prog 29 #[.int .i64 fs, .int .i64 sh, .int .i64 sd] w' fun e w'' => e = .returned (.agg #[.int .i64 ku, .int .i64 ks, .int .i64 kh, .int .i64 ka]) ∧ Below w'.heap.size w' w'') := fun w' => cK' w'
  have cR : Hid (∀ w' : World, Calls Tryz.prog 62 #[.agg #[.int .i64 fu, .int .i64 fs, .int .i64 fh, .int .i64 fa, .int .i64 fn]] w' fun e w'' => e = .returned (.bool (rowOkB ⟨⟨fu, fs, fh, fa⟩, fn⟩)) ∧ Below w'.heap.size w' w'') := fun w' => by exact RowOk_impl ⟨⟨fu, fs, fh, fa⟩, fn⟩ w'
  have HR : fthB ⟨st, sh, sd, sp, ⟨⟨eu, es, eh, ea⟩, en⟩, ⟨⟨fu, fs, fh, fa⟩, fn⟩⟩ = (rowOkB ⟨⟨fu, fs, fh, fa⟩, fn⟩ && KeyV.same ⟨fu, fs, fh, fa⟩ (forthK fs sh sd)) := rfl
  rw [hk] at HR
  rw [HR]
  clear HV HR cK' e1 hk
  generalize rowOkB ⟨⟨fu, fs, fh, fa⟩, fn⟩ = rr at cR ⊢
  obtain ⟨W0, hW0⟩ : ∃ W, w.alloc (.cells #[.int .i64 st, .int .i64 sh, .int .i64 sd, .int .i64 sp, .int .i64 eu, .int .i64 es, .int .i64 eh, .int .i64 ea, .int .i64 en, .int .i64 fu, .int .i64 fs, .int .i64 fh, .int .i64 fa, .int .i64 fn, .slice A n cap] 30) = W := ⟨_, rfl⟩
  have K0 : Hid (Below w.heap.size w W0) := by rw [← hW0]; exact (Below.refl _ w).alloc (Nat.le_refl _) _
  have S0 : Hid (W0.heap[w.heap.size]? = some (.cells #[.int .i64 st, .int .i64 sh, .int .i64 sd, .int .i64 sp, .int .i64 eu, .int .i64 es, .int .i64 eh, .int .i64 ea, .int .i64 en, .int .i64 fu, .int .i64 fs, .int .i64 fh, .int .i64 fa, .int .i64 fn, .slice A n cap] 30)) := by rw [← hW0]; exact heap1 w _
  go_enter Tryz.func38, Tryz.ntmps38
  go_wp2_with fail
  clear hW0
  cases rr with
  | false =>
    refine wp_region_own (W := W0) [] (fun _ => True) stays_true trivial [0, 0, 1, 0, 0, 0, 0, 0, 1, 0, 0, 0, 0, 1, 0, 0, 0] (by kernel_rfl) (by kernel_rfl) (by kernel_rfl) ?_
    have fS : ∀ q : In (plainEnv W0 []), _ := fun q => (blk15 (q.block S0.out (by simp))).1
    refine wpO_quiet 2 rfl (by kernel_rfl) ?_
    simp only [List.take, List.drop]
    repeat (go_big_quiet_step (fail))
    refine wpQuiet_nil ?_
    refine wpO_call (f := 62) (args := #[.agg #[.int .i64 fu, .int .i64 fs, .int .i64 fh, .int .i64 fa, .int .i64 fn]]) (.bool false) rfl (fun w' => by simp [go_sem]) (fun w' hC _ => cR.out w') ?_
    simp only [Act.put, List.setIfInBounds_toArray, List.set_cons_succ, List.set_cons_zero]
    refine wpO_quiet 5 rfl (by kernel_rfl) ?_
    simp only [List.take, List.drop]
    repeat (go_big_quiet_step (fail))
    refine wpQuiet_nil ?_
    refine wpO_skip rfl ?_
    simp only [Act.put, List.setIfInBounds_toArray, List.set_cons_succ, List.set_cons_zero]
    refine wpO_quiet 4 rfl (by kernel_rfl) ?_
    simp only [List.take, List.drop]
    repeat (go_big_quiet_step (fail))
    refine wpQuiet_nil ?_
    refine wpO_skip rfl ?_
    simp only [Act.put, List.setIfInBounds_toArray, List.set_cons_succ, List.set_cons_zero]
    refine wpO_quiet 3 rfl (by kernel_rfl) ?_
    simp only [List.take, List.drop]
    repeat (go_big_quiet_step (fail))
    refine wpQuiet_nil ?_
    refine wpO_nil ?_
    rintro w1 hb' _
    have hb := kept_below hb'
    have S1 := Lib.hid (blk_on hb S0.out)
    have K1 := Lib.hid (K0.out.trans (hb.mono K0.out.size))
    clear fS hb hb' S0 K0
    go_wp2
    go_ret
    exact ⟨rfl, K1.out⟩
  | true =>
    have hqe := eq_agg fu fs fh fa ku ks kh ka
    refine wp_region_own (W := W0) [] (fun _ => True) stays_true trivial [0, 0, 1, 0, 0, 0, 0, 0, 1, 0, 0, 0, 0, 1, 0, 0, 0] (by kernel_rfl) (by kernel_rfl) (by kernel_rfl) ?_
    have fS : ∀ q : In (plainEnv W0 []), _ := fun q => (blk15 (q.block S0.out (by simp))).1
    have rS : Hid (∀ q : In (plainEnv W0 []), q.w.heap[w.heap.size]? = some (.cells #[.int .i64 st, .int .i64 sh, .int .i64 sd, .int .i64 sp, .int .i64 eu, .int .i64 es, .int .i64 eh, .int .i64 ea, .int .i64 en, .int .i64 fu, .int .i64 fs, .int .i64 fh, .int .i64 fa, .int .i64 fn, .slice A n cap] 30)) := fun q => q.block S0.out (by simp)
    refine wpO_quiet 2 rfl (by kernel_rfl) ?_
    simp only [List.take, List.drop]
    repeat (go_big_quiet_step (fail))
    refine wpQuiet_nil ?_
    refine wpO_call (f := 62) (args := #[.agg #[.int .i64 fu, .int .i64 fs, .int .i64 fh, .int .i64 fa, .int .i64 fn]]) (.bool true) rfl (fun w' => by simp [go_sem]) (fun w' hC _ => cR.out w') ?_
    simp only [Act.put, List.setIfInBounds_toArray, List.set_cons_succ, List.set_cons_zero]
    refine wpO_quiet 4 rfl (by kernel_rfl) ?_
    simp only [List.take, List.drop]
    repeat (go_big_quiet_step (fail))
    refine wpQuiet_nil ?_
    refine wpO_load_row rfl 30 _ rfl (w.heap.size) rfl 30 _ (0, 0) _ rS.out Tryz.underlying30 rfl (by kernel_rfl) ?_
    simp only [Act.put, List.setIfInBounds_toArray, List.set_cons_succ, List.set_cons_zero]
    refine wpO_call (f := 61) (args := #[.agg #[.int .i64 st, .int .i64 sh, .int .i64 sd, .int .i64 sp, .int .i64 eu, .int .i64 es, .int .i64 eh, .int .i64 ea, .int .i64 en, .int .i64 fu, .int .i64 fs, .int .i64 fh, .int .i64 fa, .int .i64 fn, .slice A n cap]]) (.int .i64 fs) rfl (fun w' => by simp [go_sem]) (fun w' hC _ => cX.out w') ?_
    simp only [Act.put, List.setIfInBounds_toArray, List.set_cons_succ, List.set_cons_zero]
    refine wpO_quiet 4 rfl (by kernel_rfl) ?_
    simp only [List.take, List.drop]
    repeat (go_big_quiet_step (fail))
    refine wpQuiet_nil ?_
    refine wpO_call (f := 29) (args := #[.int .i64 fs, .int .i64 sh, .int .i64 sd]) (.agg #[.int .i64 ku, .int .i64 ks, .int .i64 kh, .int .i64 ka]) rfl (fun w' => by simp [go_sem]) (fun w' hC _ => cK.out w') ?_
    simp only [Act.put, List.setIfInBounds_toArray, List.set_cons_succ, List.set_cons_zero]
    refine wpO_quiet 3 rfl (by kernel_rfl) ?_
    simp only [List.take, List.drop]
    repeat (go_big_quiet_step (fail))
    refine wpQuiet_nil ?_
    refine wpO_nil ?_
    rintro w1 hb' _
    have hb := kept_below hb'
    have S1 := Lib.hid (blk_on hb S0.out)
    have K1 := Lib.hid (K0.out.trans (hb.mono K0.out.size))
    clear fS rS hb hb' S0 K0
    go_wp2
    go_ret
    exact ⟨rfl, K1.out⟩

set_option maxRecDepth 100000 in
set_option maxHeartbeats 16000000 in
theorem rightEarly_any (s : SeatV) (A : Option Addr) (n cap : Nat) (w : World) : Calls Tryz.prog 39 #[s.val A n cap] w fun e w' => e = .returned (.bool (erlB s)) ∧ Below w.heap.size w w' := by
  obtain ⟨st, sh, sd, sp, ⟨⟨eu, es, eh, ea⟩, en⟩, ⟨⟨fu, fs, fh, fa⟩, fn⟩⟩ := s
  have HV : Hid (SeatV.val ⟨st, sh, sd, sp, ⟨⟨eu, es, eh, ea⟩, en⟩, ⟨⟨fu, fs, fh, fa⟩, fn⟩⟩ A n cap = .agg #[.int .i64 st, .int .i64 sh, .int .i64 sd, .int .i64 sp, .int .i64 eu, .int .i64 es, .int .i64 eh, .int .i64 ea, .int .i64 en, .int .i64 fu, .int .i64 fs, .int .i64 fh, .int .i64 fa, .int .i64 fn, .slice A n cap]) := rfl
  rw [HV.out]
  have cX : Hid (∀ w' : World, Calls Tryz.prog 61 #[.agg #[.int .i64 st, .int .i64 sh, .int .i64 sd, .int .i64 sp, .int .i64 eu, .int .i64 es, .int .i64 eh, .int .i64 ea, .int .i64 en, .int .i64 fu, .int .i64 fs, .int .i64 fh, .int .i64 fa, .int .i64 fn, .slice A n cap]] w' fun e w'' => e = .returned (.int .i64 fs) ∧ Below w'.heap.size w' w'') := fun w' => by exact secret_any ⟨st, sh, sd, sp, ⟨⟨eu, es, eh, ea⟩, en⟩, ⟨⟨fu, fs, fh, fa⟩, fn⟩⟩ A n cap w'
  obtain ⟨⟨ku, ks, kh, ka⟩, hk⟩ : ∃ x, earlyK fs sh = x := ⟨_, rfl⟩
  have cK' := fun w' => EarlyKey_impl fs sh w'
  have e1 : rightK ⟨1, fs, sh, 0⟩ = earlyK fs sh := rfl
  rw [e1, hk] at cK'
  have cK : Hid (∀ w' : World, Calls Tryz.prog 30 #[.int .i64 fs, .int .i64 sh] w' fun e w'' => e = .returned (.agg #[.int .i64 ku, .int .i64 ks, .int .i64 kh, .int .i64 ka]) ∧ Below w'.heap.size w' w'') := fun w' => cK' w'
  have cR : Hid (∀ w' : World, Calls Tryz.prog 62 #[.agg #[.int .i64 eu, .int .i64 es, .int .i64 eh, .int .i64 ea, .int .i64 en]] w' fun e w'' => e = .returned (.bool (rowOkB ⟨⟨eu, es, eh, ea⟩, en⟩)) ∧ Below w'.heap.size w' w'') := fun w' => by exact RowOk_impl ⟨⟨eu, es, eh, ea⟩, en⟩ w'
  have HR : erlB ⟨st, sh, sd, sp, ⟨⟨eu, es, eh, ea⟩, en⟩, ⟨⟨fu, fs, fh, fa⟩, fn⟩⟩ = if st == 1 && sp == 3 then (rowOkB ⟨⟨eu, es, eh, ea⟩, en⟩ && KeyV.same ⟨eu, es, eh, ea⟩ (earlyK fs sh)) else RowV.isZ ⟨⟨eu, es, eh, ea⟩, en⟩ := rfl
  rw [hk] at HR
  rw [HR]
  clear HV HR cK' e1 hk
  generalize rowOkB ⟨⟨eu, es, eh, ea⟩, en⟩ = rr at cR ⊢
  obtain ⟨W0, hW0⟩ : ∃ W, w.alloc (.cells #[.int .i64 st, .int .i64 sh, .int .i64 sd, .int .i64 sp, .int .i64 eu, .int .i64 es, .int .i64 eh, .int .i64 ea, .int .i64 en, .int .i64 fu, .int .i64 fs, .int .i64 fh, .int .i64 fa, .int .i64 fn, .slice A n cap] 30) = W := ⟨_, rfl⟩
  have K0 : Hid (Below w.heap.size w W0) := by rw [← hW0]; exact (Below.refl _ w).alloc (Nat.le_refl _) _
  have S0 : Hid (W0.heap[w.heap.size]? = some (.cells #[.int .i64 st, .int .i64 sh, .int .i64 sd, .int .i64 sp, .int .i64 eu, .int .i64 es, .int .i64 eh, .int .i64 ea, .int .i64 en, .int .i64 fu, .int .i64 fs, .int .i64 fh, .int .i64 fa, .int .i64 fn, .slice A n cap] 30)) := by rw [← hW0]; exact heap1 w _
  go_enter Tryz.func39, Tryz.ntmps39
  obtain ⟨⟨a0, a1, a2, a3, a4, a5, a6, a7, a8, a9, a10, a11, a12, a13, a14⟩, _⟩ := blk15 S0.out
  by_cases hs : st = 1
  ·
    have hsq : (st == 1) = true := beq_int hs
    rw [hsq]
    clear hs
    by_cases hp : sp = 3
    ·
      have hpq : (sp == 3) = true := beq_int hp
      rw [hpq]
      clear hp
      simp only [Bool.and_true, if_true]
      go_wp2_with fail
      clear a0 a1 a2 a3 a4 a5 a6 a7 a8 a9 a10 a11 a12 a13 a14
      clear hW0
      cases rr with
      | false =>
        refine wp_region_own (W := W0) [] (fun _ => True) stays_true trivial [0, 0, 1, 0, 0, 0, 0, 0, 1, 0, 0, 1, 0, 0, 0] (by kernel_rfl) (by kernel_rfl) (by kernel_rfl) ?_
        have fS : ∀ q : In (plainEnv W0 []), _ := fun q => (blk15 (q.block S0.out (by simp))).1
        refine wpO_quiet 2 rfl (by kernel_rfl) ?_
        simp only [List.take, List.drop]
        repeat (go_big_quiet_step (fail))
        refine wpQuiet_nil ?_
        refine wpO_call (f := 62) (args := #[.agg #[.int .i64 eu, .int .i64 es, .int .i64 eh, .int .i64 ea, .int .i64 en]]) (.bool false) rfl (fun w' => by simp [go_sem]) (fun w' hC _ => cR.out w') ?_
        simp only [Act.put, List.setIfInBounds_toArray, List.set_cons_succ, List.set_cons_zero]
        refine wpO_quiet 5 rfl (by kernel_rfl) ?_
        simp only [List.take, List.drop]
        repeat (go_big_quiet_step (fail))
        refine wpQuiet_nil ?_
        refine wpO_skip rfl ?_
        simp only [Act.put, List.setIfInBounds_toArray, List.set_cons_succ, List.set_cons_zero]
        refine wpO_quiet 2 rfl (by kernel_rfl) ?_
        simp only [List.take, List.drop]
        repeat (go_big_quiet_step (fail))
        refine wpQuiet_nil ?_
        refine wpO_skip rfl ?_
        simp only [Act.put, List.setIfInBounds_toArray, List.set_cons_succ, List.set_cons_zero]
        refine wpO_quiet 3 rfl (by kernel_rfl) ?_
        simp only [List.take, List.drop]
        repeat (go_big_quiet_step (fail))
        refine wpQuiet_nil ?_
        refine wpO_nil ?_
        rintro w1 hb' _
        have hb := kept_below hb'
        have S1 := Lib.hid (blk_on hb S0.out)
        have K1 := Lib.hid (K0.out.trans (hb.mono K0.out.size))
        clear fS hb hb' S0 K0
        go_wp2
        go_ret
        exact ⟨rfl, K1.out⟩
      | true =>
        have hqe := eq_agg eu es eh ea ku ks kh ka
        refine wp_region_own (W := W0) [] (fun _ => True) stays_true trivial [0, 0, 1, 0, 0, 0, 0, 0, 1, 0, 0, 1, 0, 0, 0] (by kernel_rfl) (by kernel_rfl) (by kernel_rfl) ?_
        have fS : ∀ q : In (plainEnv W0 []), _ := fun q => (blk15 (q.block S0.out (by simp))).1
        have rS : Hid (∀ q : In (plainEnv W0 []), q.w.heap[w.heap.size]? = some (.cells #[.int .i64 st, .int .i64 sh, .int .i64 sd, .int .i64 sp, .int .i64 eu, .int .i64 es, .int .i64 eh, .int .i64 ea, .int .i64 en, .int .i64 fu, .int .i64 fs, .int .i64 fh, .int .i64 fa, .int .i64 fn, .slice A n cap] 30)) := fun q => q.block S0.out (by simp)
        refine wpO_quiet 2 rfl (by kernel_rfl) ?_
        simp only [List.take, List.drop]
        repeat (go_big_quiet_step (fail))
        refine wpQuiet_nil ?_
        refine wpO_call (f := 62) (args := #[.agg #[.int .i64 eu, .int .i64 es, .int .i64 eh, .int .i64 ea, .int .i64 en]]) (.bool true) rfl (fun w' => by simp [go_sem]) (fun w' hC _ => cR.out w') ?_
        simp only [Act.put, List.setIfInBounds_toArray, List.set_cons_succ, List.set_cons_zero]
        refine wpO_quiet 4 rfl (by kernel_rfl) ?_
        simp only [List.take, List.drop]
        repeat (go_big_quiet_step (fail))
        refine wpQuiet_nil ?_
        refine wpO_load_row rfl 30 _ rfl (w.heap.size) rfl 30 _ (0, 0) _ rS.out Tryz.underlying30 rfl (by kernel_rfl) ?_
        simp only [Act.put, List.setIfInBounds_toArray, List.set_cons_succ, List.set_cons_zero]
        refine wpO_call (f := 61) (args := #[.agg #[.int .i64 st, .int .i64 sh, .int .i64 sd, .int .i64 sp, .int .i64 eu, .int .i64 es, .int .i64 eh, .int .i64 ea, .int .i64 en, .int .i64 fu, .int .i64 fs, .int .i64 fh, .int .i64 fa, .int .i64 fn, .slice A n cap]]) (.int .i64 fs) rfl (fun w' => by simp [go_sem]) (fun w' hC _ => cX.out w') ?_
        simp only [Act.put, List.setIfInBounds_toArray, List.set_cons_succ, List.set_cons_zero]
        refine wpO_quiet 2 rfl (by kernel_rfl) ?_
        simp only [List.take, List.drop]
        repeat (go_big_quiet_step (fail))
        refine wpQuiet_nil ?_
        refine wpO_call (f := 30) (args := #[.int .i64 fs, .int .i64 sh]) (.agg #[.int .i64 ku, .int .i64 ks, .int .i64 kh, .int .i64 ka]) rfl (fun w' => by simp [go_sem]) (fun w' hC _ => cK.out w') ?_
        simp only [Act.put, List.setIfInBounds_toArray, List.set_cons_succ, List.set_cons_zero]
        refine wpO_quiet 3 rfl (by kernel_rfl) ?_
        simp only [List.take, List.drop]
        repeat (go_big_quiet_step (fail))
        refine wpQuiet_nil ?_
        refine wpO_nil ?_
        rintro w1 hb' _
        have hb := kept_below hb'
        have S1 := Lib.hid (blk_on hb S0.out)
        have K1 := Lib.hid (K0.out.trans (hb.mono K0.out.size))
        clear fS rS hb hb' S0 K0
        go_wp2
        go_ret
        exact ⟨rfl, K1.out⟩
    ·
      have hpq : (sp == 3) = false := bne_int hp
      rw [hpq]
      clear hp
      simp only [Bool.and_false, Bool.false_eq_true, if_false]
      have hz := eq_row_zero eu es eh ea en
      go_wp2
      go_ret
      exact ⟨rfl, K0.out⟩
  ·
    have hsq : (st == 1) = false := bne_int hs
    rw [hsq]
    clear hs
    simp only [Bool.false_and, Bool.false_eq_true, if_false]
    have hz := eq_row_zero eu es eh ea en
    go_wp2
    go_ret
    exact ⟨rfl, K0.out⟩

set_option maxRecDepth 100000 in
set_option maxHeartbeats 16000000 in
theorem SeatOk_impl0 (s : SeatV) (A : Option Addr) (n cap : Nat) (w : World) : Calls Tryz.prog 12 #[s.val A n cap] w fun e w' => e = .returned (.bool (seatOkB s n)) ∧ Below w.heap.size w w' := by
  obtain ⟨st, sh, sd, sp, ⟨⟨eu, es, eh, ea⟩, en⟩, ⟨⟨fu, fs, fh, fa⟩, fn⟩⟩ := s
  have HV : Hid (SeatV.val ⟨st, sh, sd, sp, ⟨⟨eu, es, eh, ea⟩, en⟩, ⟨⟨fu, fs, fh, fa⟩, fn⟩⟩ A n cap = .agg #[.int .i64 st, .int .i64 sh, .int .i64 sd, .int .i64 sp, .int .i64 eu, .int .i64 es, .int .i64 eh, .int .i64 ea, .int .i64 en, .int .i64 fu, .int .i64 fs, .int .i64 fh, .int .i64 fa, .int .i64 fn, .slice A n cap]) := rfl
  rw [HV.out]
  rw [seat_prog]
  have c0 : Hid (∀ w' : World, Calls Tryz.prog 35 #[.agg #[.int .i64 st, .int .i64 sh, .int .i64 sd, .int .i64 sp, .int .i64 eu, .int .i64 es, .int .i64 eh, .int .i64 ea, .int .i64 en, .int .i64 fu, .int .i64 fs, .int .i64 fh, .int .i64 fa, .int .i64 fn, .slice A n cap]] w' fun e w'' => e = .returned (.bool (st == 1 || st == 2)) ∧ Below w'.heap.size w' w'') := fun w' => by exact rightState_any ⟨st, sh, sd, sp, ⟨⟨eu, es, eh, ea⟩, en⟩, ⟨⟨fu, fs, fh, fa⟩, fn⟩⟩ A n cap w'
  have c1 : Hid (∀ w' : World, Calls Tryz.prog 36 #[.int .i64 sh] w' fun e w'' => e = .returned (.bool (isDrawB sh)) ∧ Below w'.heap.size w' w'') := fun w' => by exact IsDraw_impl sh w'
  have c2 : Hid (∀ w' : World, Calls Tryz.prog 36 #[.int .i64 sd] w' fun e w'' => e = .returned (.bool (isDrawB sd)) ∧ Below w'.heap.size w' w'') := fun w' => by exact IsDraw_impl sd w'
  have c3 : Hid (∀ w' : World, Calls Tryz.prog 37 #[.agg #[.int .i64 st, .int .i64 sh, .int .i64 sd, .int .i64 sp, .int .i64 eu, .int .i64 es, .int .i64 eh, .int .i64 ea, .int .i64 en, .int .i64 fu, .int .i64 fs, .int .i64 fh, .int .i64 fa, .int .i64 fn, .slice A n cap]] w' fun e w'' => e = .returned (.bool (pkB ⟨st, sh, sd, sp, ⟨⟨eu, es, eh, ea⟩, en⟩, ⟨⟨fu, fs, fh, fa⟩, fn⟩⟩)) ∧ Below w'.heap.size w' w'') := fun w' => by exact rightSecret_any ⟨st, sh, sd, sp, ⟨⟨eu, es, eh, ea⟩, en⟩, ⟨⟨fu, fs, fh, fa⟩, fn⟩⟩ A n cap w'
  have c4 : Hid (∀ w' : World, Calls Tryz.prog 38 #[.agg #[.int .i64 st, .int .i64 sh, .int .i64 sd, .int .i64 sp, .int .i64 eu, .int .i64 es, .int .i64 eh, .int .i64 ea, .int .i64 en, .int .i64 fu, .int .i64 fs, .int .i64 fh, .int .i64 fa, .int .i64 fn, .slice A n cap]] w' fun e w'' => e = .returned (.bool (fthB ⟨st, sh, sd, sp, ⟨⟨eu, es, eh, ea⟩, en⟩, ⟨⟨fu, fs, fh, fa⟩, fn⟩⟩)) ∧ Below w'.heap.size w' w'') := fun w' => by exact rightForth_any ⟨st, sh, sd, sp, ⟨⟨eu, es, eh, ea⟩, en⟩, ⟨⟨fu, fs, fh, fa⟩, fn⟩⟩ A n cap w'
  have c5 : Hid (∀ w' : World, Calls Tryz.prog 39 #[.agg #[.int .i64 st, .int .i64 sh, .int .i64 sd, .int .i64 sp, .int .i64 eu, .int .i64 es, .int .i64 eh, .int .i64 ea, .int .i64 en, .int .i64 fu, .int .i64 fs, .int .i64 fh, .int .i64 fa, .int .i64 fn, .slice A n cap]] w' fun e w'' => e = .returned (.bool (erlB ⟨st, sh, sd, sp, ⟨⟨eu, es, eh, ea⟩, en⟩, ⟨⟨fu, fs, fh, fa⟩, fn⟩⟩)) ∧ Below w'.heap.size w' w'') := fun w' => by exact rightEarly_any ⟨st, sh, sd, sp, ⟨⟨eu, es, eh, ea⟩, en⟩, ⟨⟨fu, fs, fh, fa⟩, fn⟩⟩ A n cap w'
  generalize pkB ⟨st, sh, sd, sp, ⟨⟨eu, es, eh, ea⟩, en⟩, ⟨⟨fu, fs, fh, fa⟩, fn⟩⟩ = z3 at c3 ⊢
  generalize fthB ⟨st, sh, sd, sp, ⟨⟨eu, es, eh, ea⟩, en⟩, ⟨⟨fu, fs, fh, fa⟩, fn⟩⟩ = z4 at c4 ⊢
  generalize erlB ⟨st, sh, sd, sp, ⟨⟨eu, es, eh, ea⟩, en⟩, ⟨⟨fu, fs, fh, fa⟩, fn⟩⟩ = z5 at c5 ⊢
  dsimp only
  generalize (st == 1 || st == 2) = z0 at c0 ⊢
  generalize isDrawB sh = z1 at c1 ⊢
  generalize isDrawB sd = z2 at c2 ⊢
  have hl : decide ((n : Int) ≤ 60) = decide (n ≤ 60) := by
    by_cases h6 : n ≤ 60
    · rw [decide_eq_true h6, decide_eq_true (by omega)]
    · rw [decide_eq_false h6, decide_eq_false (by omega)]
  generalize decide (n ≤ 60) = zn at hl ⊢
  clear HV
  obtain ⟨W0, hW0⟩ : ∃ W, w.alloc (.cells #[.int .i64 st, .int .i64 sh, .int .i64 sd, .int .i64 sp, .int .i64 eu, .int .i64 es, .int .i64 eh, .int .i64 ea, .int .i64 en, .int .i64 fu, .int .i64 fs, .int .i64 fh, .int .i64 fa, .int .i64 fn, .slice A n cap] 30) = W := ⟨_, rfl⟩
  have K0 : Hid (Below w.heap.size w W0) := by rw [← hW0]; exact (Below.refl _ w).alloc (Nat.le_refl _) _
  have S0 : Hid (W0.heap[w.heap.size]? = some (.cells #[.int .i64 st, .int .i64 sh, .int .i64 sd, .int .i64 sp, .int .i64 eu, .int .i64 es, .int .i64 eh, .int .i64 ea, .int .i64 en, .int .i64 fu, .int .i64 fs, .int .i64 fh, .int .i64 fa, .int .i64 fn, .slice A n cap] 30)) := by rw [← hW0]; exact heap1 w _
  go_enter Tryz.func12, Tryz.ntmps12
  go_wp2_with (refine wpList_load_row rfl 30 _ rfl (w.heap.size) rfl 30 _ (0, 0) _ S0.out Tryz.underlying30 rfl (by kernel_rfl) ?_)
  clear hW0
  refine (c0.out _).mono ?_
  rintro e w1 ⟨rfl, hb⟩
  have S1 := Lib.hid (blk_on hb S0.out)
  have K1 := Lib.hid (K0.out.trans (hb.mono K0.out.size))
  clear hb S0 K0
  cases z0 with
  | false =>
    go_wp2
    go_ret
    exact ⟨rfl, K1.out⟩
  | true =>
    obtain ⟨⟨a0, a1, a2, a3, a4, a5, a6, a7, a8, a9, a10, a11, a12, a13, a14⟩, _⟩ := blk15 S1.out
    go_wp2_with fail
    clear a0 a1 a2 a3 a4 a5 a6 a7 a8 a9 a10 a11 a12 a13 a14
    refine (c1.out _).mono ?_
    rintro e w2 ⟨rfl, hb⟩
    have S2 := Lib.hid (blk_on hb S1.out)
    have K2 := Lib.hid (K1.out.trans (hb.mono K1.out.size))
    clear hb S1 K1
    cases z1 with
    | false =>
      go_wp2
      go_ret
      exact ⟨rfl, K2.out⟩
    | true =>
      obtain ⟨⟨a0, a1, a2, a3, a4, a5, a6, a7, a8, a9, a10, a11, a12, a13, a14⟩, _⟩ := blk15 S2.out
      go_wp2_with fail
      clear a0 a1 a2 a3 a4 a5 a6 a7 a8 a9 a10 a11 a12 a13 a14
      refine (c2.out _).mono ?_
      rintro e w3 ⟨rfl, hb⟩
      have S3 := Lib.hid (blk_on hb S2.out)
      have K3 := Lib.hid (K2.out.trans (hb.mono K2.out.size))
      clear hb S2 K2
      cases z2 with
      | false =>
        go_wp2
        go_ret
        exact ⟨rfl, K3.out⟩
      | true =>
        go_wp2_with (refine wpList_load_wanted rfl 30 _ rfl (w.heap.size) rfl 30 _ (0, 0) _ S3.out Tryz.underlying30 rfl (by kernel_rfl) ?_)
        refine (c3.out _).mono ?_
        rintro e w4 ⟨rfl, hb⟩
        have S4 := Lib.hid (blk_on hb S3.out)
        have K4 := Lib.hid (K3.out.trans (hb.mono K3.out.size))
        clear hb S3 K3
        cases z3 with
        | false =>
          go_wp2
          go_ret
          exact ⟨rfl, K4.out⟩
        | true =>
          go_wp2_with (refine wpList_load_wanted rfl 30 _ rfl (w.heap.size) rfl 30 _ (0, 0) _ S4.out Tryz.underlying30 rfl (by kernel_rfl) ?_)
          refine (c4.out _).mono ?_
          rintro e w5 ⟨rfl, hb⟩
          have S5 := Lib.hid (blk_on hb S4.out)
          have K5 := Lib.hid (K4.out.trans (hb.mono K4.out.size))
          clear hb S4 K4
          cases z4 with
          | false =>
            go_wp2
            go_ret
            exact ⟨rfl, K5.out⟩
          | true =>
            go_wp2_with (refine wpList_load_wanted rfl 30 _ rfl (w.heap.size) rfl 30 _ (0, 0) _ S5.out Tryz.underlying30 rfl (by kernel_rfl) ?_)
            refine (c5.out _).mono ?_
            rintro e w6 ⟨rfl, hb⟩
            have S6 := Lib.hid (blk_on hb S5.out)
            have K6 := Lib.hid (K5.out.trans (hb.mono K5.out.size))
            clear hb S5 K5
            cases z5 with
            | false =>
              go_wp2
              go_ret
              exact ⟨rfl, K6.out⟩
            | true =>
              obtain ⟨⟨a0, a1, a2, a3, a4, a5, a6, a7, a8, a9, a10, a11, a12, a13, a14⟩, _⟩ := blk15 S6.out
              go_wp2
              go_ret
              exact ⟨by simp, K6.out⟩
theorem SeatOk_impl (s : SeatV) (A : Option Addr) (n cap : Nat) (l : List WordV) (w : World) (_ : EltsO w w.heap.size A n l) (_ : n ≤ 1048576) : Calls Tryz.prog 12 #[s.val A n cap] w fun e w' => e = .returned (.bool (seatOkB s n)) ∧ Below w.heap.size w w' := SeatOk_impl0 s A n cap w

set_option maxRecDepth 100000 in
set_option maxHeartbeats 16000000 in
theorem NewSeat_impl (h d p s : Int) (w : World) : Calls Tryz.prog 8 #[.int .i64 h, .int .i64 d, .int .i64 p, .int .i64 s] w fun e w' => ∃ A c, e = .returned (.tuple #[(newSeatV h d p s).val A 0 c, .bool (newSeatB h d p s)]) ∧ LogOut w' w.heap.size A 0 c [] ∧ Below w.heap.size w w' := by
  have G1' : seatOkB (newSeatRaw h d p s) 0 = false → newSeatV h d p s = .zero ∧ newSeatB h d p s = false := fun e2 => by
    have e1 : newSeatB h d p s = false := (newB_raw h d p s).trans e2
    exact ⟨by rw [newSeatV, e1]; rfl, e1⟩
  have G2' : seatOkB (newSeatRaw h d p s) 0 = true → newSeatV h d p s = newSeatRaw h d p s ∧ newSeatB h d p s = true := fun e2 => by
    have e1 : newSeatB h d p s = true := (newB_raw h d p s).trans e2
    exact ⟨by rw [newSeatV, e1]; rfl, e1⟩
  have cFK' := fun w' => ForthKey_impl s h d w'
  have cEK' := fun w' => EarlyKey_impl s h w'
  have e1 : rightK ⟨4, s, h, d⟩ = forthK s h d := rfl
  have e2 : rightK ⟨1, s, h, 0⟩ = earlyK s h := rfl
  have r3 : p = 3 → newSeatRaw h d p s = ⟨1, h, d, p, ⟨earlyK s h, 0⟩, ⟨forthK s h d, 0⟩⟩ := fun hp => by rw [newSeatRaw, beq_int hp]; rfl
  have r4 : p ≠ 3 → newSeatRaw h d p s = ⟨1, h, d, p, .zero, ⟨forthK s h d, 0⟩⟩ := fun hp => by rw [newSeatRaw, bne_int hp]; rfl
  have cS := fun w' => SeatOk_impl0 (newSeatRaw h d p s) none 0 0 w'
  obtain ⟨⟨ku, ks, kh, ka⟩, hk⟩ : ∃ x, forthK s h d = x := ⟨_, rfl⟩
  obtain ⟨⟨qu, qs, qh, qa⟩, hq⟩ : ∃ x, earlyK s h = x := ⟨_, rfl⟩
  rw [e1, hk] at cFK'
  rw [e2, hq] at cEK'
  rw [hk, hq] at r3
  rw [hk] at r4
  clear e1 e2 hk hq
  obtain ⟨raw, hraw⟩ : ∃ x, newSeatRaw h d p s = x := ⟨_, rfl⟩
  rw [hraw] at G1' G2' r3 r4 cS
  clear hraw
  obtain ⟨zs, hzs⟩ : ∃ x, seatOkB raw 0 = x := ⟨_, rfl⟩
  rw [hzs] at G1' G2' cS
  clear hzs
  have cFK : Hid (∀ w' : World, Calls Tryz.prog 29 #[.int .i64 s, .int .i64 h, .int .i64 d] w' fun e w'' => e = .returned (.agg #[.int .i64 ku, .int .i64 ks, .int .i64 kh, .int .i64 ka]) ∧ Below w'.heap.size w' w'') := fun w' => cFK' w'
  have cEK : Hid (∀ w' : World, Calls Tryz.prog 30 #[.int .i64 s, .int .i64 h] w' fun e w'' => e = .returned (.agg #[.int .i64 qu, .int .i64 qs, .int .i64 qh, .int .i64 qa]) ∧ Below w'.heap.size w' w'') := fun w' => cEK' w'
  have cA3 : Hid (p = 3 → ∀ w' : World, Calls Tryz.prog 12 #[.agg #[.int .i64 1, .int .i64 h, .int .i64 d, .int .i64 p, .int .i64 qu, .int .i64 qs, .int .i64 qh, .int .i64 qa, .int .i64 0, .int .i64 ku, .int .i64 ks, .int .i64 kh, .int .i64 ka, .int .i64 0, .slice none 0 0]] w' fun e w'' => e = .returned (.bool zs) ∧ Below w'.heap.size w' w'') := fun hp w' => by
    have h1 := cS w'
    rw [r3 hp] at h1
    exact h1
  have cA4 : Hid (p ≠ 3 → ∀ w' : World, Calls Tryz.prog 12 #[.agg #[.int .i64 1, .int .i64 h, .int .i64 d, .int .i64 p, .int .i64 0, .int .i64 0, .int .i64 0, .int .i64 0, .int .i64 0, .int .i64 ku, .int .i64 ks, .int .i64 kh, .int .i64 ka, .int .i64 0, .slice none 0 0]] w' fun e w'' => e = .returned (.bool zs) ∧ Below w'.heap.size w' w'') := fun hp w' => by
    have h1 := cS w'
    rw [r4 hp] at h1
    exact h1
  generalize newSeatV h d p s = out at G1' G2' ⊢
  generalize newSeatB h d p s = ob at G1' G2' ⊢
  have G1 := Lib.hid G1'
  have G3 : Hid (p = 3 → zs = true → out = ⟨1, h, d, p, ⟨⟨qu, qs, qh, qa⟩, 0⟩, ⟨⟨ku, ks, kh, ka⟩, 0⟩⟩ ∧ ob = true) := fun hp b => by
    have h1 := G2' b
    rw [r3 hp] at h1
    exact h1
  have G4 : Hid (p ≠ 3 → zs = true → out = ⟨1, h, d, p, .zero, ⟨⟨ku, ks, kh, ka⟩, 0⟩⟩ ∧ ob = true) := fun hp b => by
    have h1 := G2' b
    rw [r4 hp] at h1
    exact h1
  clear G1' G2' cFK' cEK' cS r3 r4
  obtain ⟨W0, hW0⟩ : ∃ W, w.alloc (.cells #[.int .i64 0, .int .i64 0, .int .i64 0, .int .i64 0, .int .i64 0, .int .i64 0, .int .i64 0, .int .i64 0, .int .i64 0, .int .i64 0, .int .i64 0, .int .i64 0, .int .i64 0, .int .i64 0, .slice none 0 0] 30) = W := ⟨_, rfl⟩
  have K0 : Hid (Below w.heap.size w W0) := by rw [← hW0]; exact (Below.refl _ w).alloc (Nat.le_refl _) _
  have R0 : Hid (W0.heap[w.heap.size]? = some (.cells #[.int .i64 0, .int .i64 0, .int .i64 0, .int .i64 0, .int .i64 0, .int .i64 0, .int .i64 0, .int .i64 0, .int .i64 0, .int .i64 0, .int .i64 0, .int .i64 0, .int .i64 0, .int .i64 0, .slice none 0 0] 30)) := by rw [← hW0]; exact heap1 w _
  go_enter Tryz.func8, Tryz.ntmps8
  obtain ⟨V1, hV1⟩ : ∃ V, W0.alloc (.cells #[.int .i64 0, .int .i64 0, .int .i64 0, .int .i64 0, .int .i64 0, .int .i64 0, .int .i64 0, .int .i64 0, .int .i64 0, .int .i64 0, .int .i64 0, .int .i64 0, .int .i64 0, .int .i64 0, .slice none 0 0] 30) = V := ⟨_, rfl⟩
  have ltV1R : w.heap.size < W0.heap.size := blk_in R0.out
  have R1 : Hid (V1.heap[w.heap.size]? = some (.cells #[.int .i64 0, .int .i64 0, .int .i64 0, .int .i64 0, .int .i64 0, .int .i64 0, .int .i64 0, .int .i64 0, .int .i64 0, .int .i64 0, .int .i64 0, .int .i64 0, .int .i64 0, .int .i64 0, .slice none 0 0] 30)) := by rw [← hV1]; exact alloc_blk R0.out
  have hb : Below W0.heap.size W0 V1 := by rw [← hV1]; exact (Below.refl _ W0).alloc (Nat.le_refl _) _
  have K1 := Lib.hid (K0.out.trans (hb.mono K0.out.size))
  have A1 : Hid (V1.heap[W0.heap.size]? = some (.cells #[.int .i64 0, .int .i64 0, .int .i64 0, .int .i64 0, .int .i64 0, .int .i64 0, .int .i64 0, .int .i64 0, .int .i64 0, .int .i64 0, .int .i64 0, .int .i64 0, .int .i64 0, .int .i64 0, .slice none 0 0] 30)) := by rw [← hV1]; exact heap1 W0 _
  have lbV1 : w.heap.size ≤ W0.heap.size := K0.out.size
  clear hb R0 K0
  have R2 : Hid ((V1.setRow W0.heap.size #[.int .i64 1, .int .i64 h, .int .i64 d, .int .i64 p, .int .i64 0, .int .i64 0, .int .i64 0, .int .i64 0, .int .i64 0, .int .i64 0, .int .i64 0, .int .i64 0, .int .i64 0, .int .i64 0, .slice none 0 0]).heap[w.heap.size]? = some (.cells #[.int .i64 0, .int .i64 0, .int .i64 0, .int .i64 0, .int .i64 0, .int .i64 0, .int .i64 0, .int .i64 0, .int .i64 0, .int .i64 0, .int .i64 0, .int .i64 0, .int .i64 0, .int .i64 0, .slice none 0 0] 30)) := (setRow_other _ _ _ _ (by omega)).trans R1.out
  have A2 : Hid ((V1.setRow W0.heap.size #[.int .i64 1, .int .i64 h, .int .i64 d, .int .i64 p, .int .i64 0, .int .i64 0, .int .i64 0, .int .i64 0, .int .i64 0, .int .i64 0, .int .i64 0, .int .i64 0, .int .i64 0, .int .i64 0, .slice none 0 0]).heap[W0.heap.size]? = some (.cells #[.int .i64 1, .int .i64 h, .int .i64 d, .int .i64 p, .int .i64 0, .int .i64 0, .int .i64 0, .int .i64 0, .int .i64 0, .int .i64 0, .int .i64 0, .int .i64 0, .int .i64 0, .int .i64 0, .slice none 0 0] 30)) := setRow_heap _ _ _ _ _ _ A1.out
  have K2 : Hid (Below w.heap.size w (V1.setRow W0.heap.size #[.int .i64 1, .int .i64 h, .int .i64 d, .int .i64 p, .int .i64 0, .int .i64 0, .int .i64 0, .int .i64 0, .int .i64 0, .int .i64 0, .int .i64 0, .int .i64 0, .int .i64 0, .int .i64 0, .slice none 0 0])) := below_setRow K1.out (by omega) _
  go_wp2_with (refine wpList_store_row rfl 30 _ _ rfl (W0.heap.size) #[.int .i64 1, .int .i64 h, .int .i64 d, .int .i64 p, .int .i64 0, .int .i64 0, .int .i64 0, .int .i64 0, .int .i64 0, .int .i64 0, .int .i64 0, .int .i64 0, .int .i64 0, .int .i64 0, .slice none 0 0] rfl rfl 30 _ A1.out (by kernel_rfl) rfl (by simp [Value.oneCell']) ?_)
  clear hW0 hV1 R1 A1 K1
  generalize V1.setRow W0.heap.size #[.int .i64 1, .int .i64 h, .int .i64 d, .int .i64 p, .int .i64 0, .int .i64 0, .int .i64 0, .int .i64 0, .int .i64 0, .int .i64 0, .int .i64 0, .int .i64 0, .int .i64 0, .int .i64 0, .slice none 0 0] = S2 at R2 A2 K2 ⊢
  refine (cFK.out _).mono ?_
  rintro e w3 ⟨rfl, hb⟩
  have R3 := Lib.hid (blk_on hb R2.out)
  have A3 := Lib.hid (blk_on hb A2.out)
  have K3 := Lib.hid (K2.out.trans (hb.mono K2.out.size))
  clear hb R2 A2 K2
  obtain ⟨⟨a0, a1, a2, a3, a4, a5, a6, a7, a8, a9, a10, a11, a12, a13, a14⟩, az0, az1, az2, az3, az4, az5, az6, az7, az8, az9, az10, az11, az12, az13, az14⟩ := blk15 A3.out
  obtain ⟨S4, qS4⟩ : ∃ W, setAll w3 W0.heap.size 9 [.int .i64 ku, .int .i64 ks, .int .i64 kh, .int .i64 ka] = W := ⟨_, rfl⟩
  have hS4 : ((((w3.setCell ⟨W0.heap.size, 9, none⟩ (.int .i64 ku)).setCell ⟨W0.heap.size, 10, none⟩ (.int .i64 ks)).setCell ⟨W0.heap.size, 11, none⟩ (.int .i64 kh)).setCell ⟨W0.heap.size, 12, none⟩ (.int .i64 ka)) = S4 := qS4
  have R4 : Hid (S4.heap[w.heap.size]? = some (.cells #[.int .i64 0, .int .i64 0, .int .i64 0, .int .i64 0, .int .i64 0, .int .i64 0, .int .i64 0, .int .i64 0, .int .i64 0, .int .i64 0, .int .i64 0, .int .i64 0, .int .i64 0, .int .i64 0, .slice none 0 0] 30)) := by rw [← qS4]; exact setAll_away (by omega) _ _ R3.out
  have A4 : Hid (S4.heap[W0.heap.size]? = some (.cells #[.int .i64 1, .int .i64 h, .int .i64 d, .int .i64 p, .int .i64 0, .int .i64 0, .int .i64 0, .int .i64 0, .int .i64 0, .int .i64 ku, .int .i64 ks, .int .i64 kh, .int .i64 ka, .int .i64 0, .slice none 0 0] 30)) := by
    rw [← qS4]
    refine (setAll_blk (w := w3) (g := W0.heap.size) [.int .i64 ku, .int .i64 ks, .int .i64 kh, .int .i64 ka] 9 A3.out).trans ?_
    refine congrArg (fun z => some (Obj.cells z 30 (0, 0))) (Array.toList_inj.1 ?_)
    rw [overA_toList _ _ _ (by simp)]
    rfl
  have K4 : Hid (Below w.heap.size w S4) := by rw [← qS4]; exact setAll_below (g := W0.heap.size) (by omega) [.int .i64 ku, .int .i64 ks, .int .i64 kh, .int .i64 ka] 9 K3.out
  have zS4 : w3.heap.size = S4.heap.size := by rw [← qS4]; exact (setAll_size [.int .i64 ku, .int .i64 ks, .int .i64 kh, .int .i64 ka] 9 _).symm
  clear qS4 R3 A3 K3
  by_cases hp : p = 3
  ·
    have hp' : (p == 3) = true := beq_int hp
    have HA3 := Lib.hid (cA3.out hp)
    have HG3 := Lib.hid (G3.out hp)
    clear hp cA3 cA4 G3 G4
    go_wp2_with fail
    clear a0 a1 a2 a3 a4 a5 a6 a7 a8 a9 a10 a11 a12 a13 a14 az0 az1 az2 az3 az4 az5 az6 az7 az8 az9 az10 az11 az12 az13 az14
    clear hS4
    refine (cEK.out _).mono ?_
    rintro e w5 ⟨rfl, hb⟩
    have R5 := Lib.hid (blk_on hb R4.out)
    have A5 := Lib.hid (blk_on hb A4.out)
    have K5 := Lib.hid (K4.out.trans (hb.mono K4.out.size))
    clear hb R4 A4 K4
    obtain ⟨⟨b0, b1, b2, b3, b4, b5, b6, b7, b8, b9, b10, b11, b12, b13, b14⟩, bz0, bz1, bz2, bz3, bz4, bz5, bz6, bz7, bz8, bz9, bz10, bz11, bz12, bz13, bz14⟩ := blk15 A5.out
    obtain ⟨S6, qS6⟩ : ∃ W, setAll w5 W0.heap.size 4 [.int .i64 qu, .int .i64 qs, .int .i64 qh, .int .i64 qa] = W := ⟨_, rfl⟩
    have hS6 : ((((w5.setCell ⟨W0.heap.size, 4, none⟩ (.int .i64 qu)).setCell ⟨W0.heap.size, 5, none⟩ (.int .i64 qs)).setCell ⟨W0.heap.size, 6, none⟩ (.int .i64 qh)).setCell ⟨W0.heap.size, 7, none⟩ (.int .i64 qa)) = S6 := qS6
    have R6 : Hid (S6.heap[w.heap.size]? = some (.cells #[.int .i64 0, .int .i64 0, .int .i64 0, .int .i64 0, .int .i64 0, .int .i64 0, .int .i64 0, .int .i64 0, .int .i64 0, .int .i64 0, .int .i64 0, .int .i64 0, .int .i64 0, .int .i64 0, .slice none 0 0] 30)) := by rw [← qS6]; exact setAll_away (by omega) _ _ R5.out
    have A6 : Hid (S6.heap[W0.heap.size]? = some (.cells #[.int .i64 1, .int .i64 h, .int .i64 d, .int .i64 p, .int .i64 qu, .int .i64 qs, .int .i64 qh, .int .i64 qa, .int .i64 0, .int .i64 ku, .int .i64 ks, .int .i64 kh, .int .i64 ka, .int .i64 0, .slice none 0 0] 30)) := by
      rw [← qS6]
      refine (setAll_blk (w := w5) (g := W0.heap.size) [.int .i64 qu, .int .i64 qs, .int .i64 qh, .int .i64 qa] 4 A5.out).trans ?_
      refine congrArg (fun z => some (Obj.cells z 30 (0, 0))) (Array.toList_inj.1 ?_)
      rw [overA_toList _ _ _ (by simp)]
      rfl
    have K6 : Hid (Below w.heap.size w S6) := by rw [← qS6]; exact setAll_below (g := W0.heap.size) (by omega) [.int .i64 qu, .int .i64 qs, .int .i64 qh, .int .i64 qa] 4 K5.out
    have zS6 : w5.heap.size = S6.heap.size := by rw [← qS6]; exact (setAll_size [.int .i64 qu, .int .i64 qs, .int .i64 qh, .int .i64 qa] 4 _).symm
    clear qS6 R5 A5 K5
    go_upto_region 5 with fail
    try rw [hS6]
    clear b0 b1 b2 b3 b4 b5 b6 b7 b8 b9 b10 b11 b12 b13 b14 bz0 bz1 bz2 bz3 bz4 bz5 bz6 bz7 bz8 bz9 bz10 bz11 bz12 bz13 bz14
    clear hS6
    go_wp2_with (refine wpList_load_row rfl 30 _ rfl (W0.heap.size) rfl 30 _ (0, 0) _ A6.out Tryz.underlying30 rfl (by kernel_rfl) ?_)
    refine (HA3.out _).mono ?_
    rintro e w7 ⟨rfl, hb⟩
    have R7 := Lib.hid (blk_on hb R6.out)
    have A7 := Lib.hid (blk_on hb A6.out)
    have K7 := Lib.hid (K6.out.trans (hb.mono K6.out.size))
    clear hb R6 A6 K6
    cases zs with
    | false =>
      have HE := Lib.hid (G1.out rfl)
      go_wp2_with (refine wpList_store_row rfl 30 _ _ rfl (w.heap.size) #[.int .i64 0, .int .i64 0, .int .i64 0, .int .i64 0, .int .i64 0, .int .i64 0, .int .i64 0, .int .i64 0, .int .i64 0, .int .i64 0, .int .i64 0, .int .i64 0, .int .i64 0, .int .i64 0, .slice none 0 0] rfl rfl 30 _ R7.out (by kernel_rfl) rfl (by simp [Value.oneCell']) ?_)
      exact row_ret2 (r := w.heap.size) (cs := #[.int .i64 0, .int .i64 0, .int .i64 0, .int .i64 0, .int .i64 0, .int .i64 0, .int .i64 0, .int .i64 0, .int .i64 0, .int .i64 0, .int .i64 0, .int .i64 0, .int .i64 0, .int .i64 0, .slice none 0 0]) rfl rfl rfl (setRow_heap _ _ _ _ _ _ R7.out) Tryz.underlying30 rfl (by kernel_rfl) rfl ⟨none, 0, by rw [HE.out.1, HE.out.2]; rfl, .inl ⟨rfl, rfl, rfl, rfl⟩, below_setRow K7.out (by omega) _⟩
    | true =>
      have HE := Lib.hid (HG3.out rfl)
      go_wp2_with (first | (refine wpList_load_row rfl 30 _ rfl (W0.heap.size) rfl 30 _ (0, 0) _ A7.out Tryz.underlying30 rfl (by kernel_rfl) ?_) | (refine wpList_store_row rfl 30 _ _ rfl (w.heap.size) #[.int .i64 1, .int .i64 h, .int .i64 d, .int .i64 p, .int .i64 qu, .int .i64 qs, .int .i64 qh, .int .i64 qa, .int .i64 0, .int .i64 ku, .int .i64 ks, .int .i64 kh, .int .i64 ka, .int .i64 0, .slice none 0 0] rfl rfl 30 _ R7.out (by kernel_rfl) rfl (by simp [Value.oneCell']) ?_))
      exact row_ret2 (r := w.heap.size) (cs := #[.int .i64 1, .int .i64 h, .int .i64 d, .int .i64 p, .int .i64 qu, .int .i64 qs, .int .i64 qh, .int .i64 qa, .int .i64 0, .int .i64 ku, .int .i64 ks, .int .i64 kh, .int .i64 ka, .int .i64 0, .slice none 0 0]) rfl rfl rfl (setRow_heap _ _ _ _ _ _ R7.out) Tryz.underlying30 rfl (by kernel_rfl) rfl ⟨none, 0, by rw [HE.out.1, HE.out.2]; rfl, .inl ⟨rfl, rfl, rfl, rfl⟩, below_setRow K7.out (by omega) _⟩
  ·
    have hp' : (p == 3) = false := bne_int hp
    have HA3 := Lib.hid (cA4.out hp)
    have HG3 := Lib.hid (G4.out hp)
    clear hp cA3 cA4 G3 G4
    go_upto_region 5 with fail
    try rw [hS4]
    clear a0 a1 a2 a3 a4 a5 a6 a7 a8 a9 a10 a11 a12 a13 a14 az0 az1 az2 az3 az4 az5 az6 az7 az8 az9 az10 az11 az12 az13 az14
    clear hS4
    go_wp2_with (refine wpList_load_row rfl 30 _ rfl (W0.heap.size) rfl 30 _ (0, 0) _ A4.out Tryz.underlying30 rfl (by kernel_rfl) ?_)
    refine (HA3.out _).mono ?_
    rintro e w5 ⟨rfl, hb⟩
    have R5 := Lib.hid (blk_on hb R4.out)
    have A5 := Lib.hid (blk_on hb A4.out)
    have K5 := Lib.hid (K4.out.trans (hb.mono K4.out.size))
    clear hb R4 A4 K4
    cases zs with
    | false =>
      have HE := Lib.hid (G1.out rfl)
      go_wp2_with (refine wpList_store_row rfl 30 _ _ rfl (w.heap.size) #[.int .i64 0, .int .i64 0, .int .i64 0, .int .i64 0, .int .i64 0, .int .i64 0, .int .i64 0, .int .i64 0, .int .i64 0, .int .i64 0, .int .i64 0, .int .i64 0, .int .i64 0, .int .i64 0, .slice none 0 0] rfl rfl 30 _ R5.out (by kernel_rfl) rfl (by simp [Value.oneCell']) ?_)
      exact row_ret2 (r := w.heap.size) (cs := #[.int .i64 0, .int .i64 0, .int .i64 0, .int .i64 0, .int .i64 0, .int .i64 0, .int .i64 0, .int .i64 0, .int .i64 0, .int .i64 0, .int .i64 0, .int .i64 0, .int .i64 0, .int .i64 0, .slice none 0 0]) rfl rfl rfl (setRow_heap _ _ _ _ _ _ R5.out) Tryz.underlying30 rfl (by kernel_rfl) rfl ⟨none, 0, by rw [HE.out.1, HE.out.2]; rfl, .inl ⟨rfl, rfl, rfl, rfl⟩, below_setRow K5.out (by omega) _⟩
    | true =>
      have HE := Lib.hid (HG3.out rfl)
      go_wp2_with (first | (refine wpList_load_row rfl 30 _ rfl (W0.heap.size) rfl 30 _ (0, 0) _ A5.out Tryz.underlying30 rfl (by kernel_rfl) ?_) | (refine wpList_store_row rfl 30 _ _ rfl (w.heap.size) #[.int .i64 1, .int .i64 h, .int .i64 d, .int .i64 p, .int .i64 0, .int .i64 0, .int .i64 0, .int .i64 0, .int .i64 0, .int .i64 ku, .int .i64 ks, .int .i64 kh, .int .i64 ka, .int .i64 0, .slice none 0 0] rfl rfl 30 _ R5.out (by kernel_rfl) rfl (by simp [Value.oneCell']) ?_))
      exact row_ret2 (r := w.heap.size) (cs := #[.int .i64 1, .int .i64 h, .int .i64 d, .int .i64 p, .int .i64 0, .int .i64 0, .int .i64 0, .int .i64 0, .int .i64 0, .int .i64 ku, .int .i64 ks, .int .i64 kh, .int .i64 ka, .int .i64 0, .slice none 0 0]) rfl rfl rfl (setRow_heap _ _ _ _ _ _ R5.out) Tryz.underlying30 rfl (by kernel_rfl) rfl ⟨none, 0, by rw [HE.out.1, HE.out.2]; rfl, .inl ⟨rfl, rfl, rfl, rfl⟩, below_setRow K5.out (by omega) _⟩

set_option maxRecDepth 100000 in
set_option maxHeartbeats 8000000 in
theorem LogOf_impl (s : SeatV) (A : Option Addr) (n cap : Nat) (l : List WordV) (w : World) (h : EltsO w w.heap.size A n l) (hn : n ≤ 1048576) :
    Calls Tryz.prog 15 #[s.val A n cap] w fun e w' => ∃ gb cb, e = .returned (.slice (some ⟨gb, 0, none⟩) (l.map WordV.t).length cb) ∧ MadeE w' w.heap.size 9 (l.map WordV.t) gb cb ∧ Below w.heap.size w w' := by
  obtain ⟨i0, by0, hi, hz0, hz1, hz2, hby⟩ := infoStrE
  have E := Lib.hid h
  clear h
  obtain ⟨st, sh, sd, sp, ⟨⟨eu, es, eh, ea⟩, en⟩, ⟨⟨fu, fs, fh, fa⟩, fn⟩⟩ := s
  have HV : Hid (SeatV.val ⟨st, sh, sd, sp, ⟨⟨eu, es, eh, ea⟩, en⟩, ⟨⟨fu, fs, fh, fa⟩, fn⟩⟩ A n cap = .agg #[.int .i64 st, .int .i64 sh, .int .i64 sd, .int .i64 sp, .int .i64 eu, .int .i64 es, .int .i64 eh, .int .i64 ea, .int .i64 en, .int .i64 fu, .int .i64 fs, .int .i64 fh, .int .i64 fa, .int .i64 fn, .slice A n cap]) := rfl
  rw [HV.out]
  clear HV
  obtain ⟨W0, hW0⟩ : ∃ W, w.alloc (.cells #[.int .i64 st, .int .i64 sh, .int .i64 sd, .int .i64 sp, .int .i64 eu, .int .i64 es, .int .i64 eh, .int .i64 ea, .int .i64 en, .int .i64 fu, .int .i64 fs, .int .i64 fh, .int .i64 fa, .int .i64 fn, .slice A n cap] 30) = W := ⟨_, rfl⟩
  have K0 : Hid (Below w.heap.size w W0) := by rw [← hW0]; exact (Below.refl _ w).alloc (Nat.le_refl _) _
  have zW0 : W0.heap.size = w.heap.size + 1 := by rw [← hW0]; simp
  have S0 : Hid (W0.heap[w.heap.size]? = some (.cells #[.int .i64 st, .int .i64 sh, .int .i64 sd, .int .i64 sp, .int .i64 eu, .int .i64 es, .int .i64 eh, .int .i64 ea, .int .i64 en, .int .i64 fu, .int .i64 fs, .int .i64 fh, .int .i64 fa, .int .i64 fn, .slice A n cap] 30)) := by rw [← hW0]; exact heap1 w _
  obtain ⟨⟨a0, a1, a2, a3, a4, a5, a6, a7, a8, a9, a10, a11, a12, a13, a14⟩, _⟩ := blk15 S0.out
  go_enter Tryz.func15, Tryz.ntmps15
  go_wp2
  clear hW0
  go_loopw [3, 10] (fun v i wr => ∃ (k gb cb : Nat), k ≤ n ∧ i = .int .i64 k ∧ v = .slice (some ⟨gb, 0, none⟩) ((l.take k).map WordV.t).length cb ∧ MadeE wr (w.heap.size + 1) 9 ((l.take k).map WordV.t) gb cb ∧ Below w.heap.size w wr) (fun _ i _ => n - (intOf i).toNat)
  case atStart => exact ⟨0, W0.heap.size, 0, Nat.zero_le _, rfl, by simp, madeG_nil (heap1 W0 _) (by rw [zW0]; exact Nat.le_refl _), K0.out.alloc K0.out.size _⟩
  case round =>
    obtain ⟨k, gb, cb, hk, rfl, rfl, hM, hB⟩ := hrel
    obtain ⟨out, hout⟩ : ∃ x, (l.take k).map WordV.t = x := ⟨_, rfl⟩
    have holen : out.length ≤ n := by rw [← hout, List.length_map, List.length_take]; omega
    rw [hout] at hM ⊢
    have HO := Lib.hid hout
    have HM := Lib.hid hM
    have HB := Lib.hid hB
    have hgb := hM.base
    have hsB := hB.size
    clear hout hM hB
    by_cases hlt : k < n
    · obtain ⟨b, off, rfl, hb, hc⟩ := E.out.2 (by omega)
      obtain ⟨⟨xt, xp⟩, hx⟩ : ∃ x, l[k]? = some x := ⟨_, List.getElem?_eq_getElem (by rw [E.out.1]; exact hlt)⟩
      have g1 : At w b (off + k * 2) _ := hc k _ hx
      obtain ⟨c0, c1⟩ := word_at (g1.heap (HB.out.block b hb))
      dsimp only at c0 c1
      have hk0 : (0 : Int) ≤ (k : Int) := by omega
      have hkn : (k : Int) < (n : Int) := by omega
      have HT : Hid ((l.take (k + 1)).map WordV.t = out ++ [xt]) := by show _ = _; rw [text_step hx, HO.out]
      clear hx hc g1
      obtain ⟨wv, hwv⟩ : ∃ V, wr.alloc (.cells #[.string xt, .bool xp] 49) = V := ⟨_, rfl⟩
      have HMv : Hid (MadeE wv (w.heap.size + 1) 9 out gb cb) := by rw [← hwv]; exact HM.out.below ((Below.refl _ wr).alloc (Nat.le_refl _) _)
      have HBv : Hid (Below w.heap.size w wv) := by rw [← hwv]; exact HB.out.alloc HB.out.size _
      have X1 : Hid (wv.heap[wr.heap.size]? = some (.cells #[.string xt, .bool xp] 49)) := by rw [← hwv]; exact heap1 wr _
      have zwv : wr.heap.size < wv.heap.size := blk_in X1.out
      obtain ⟨⟨x0, x1⟩, _⟩ := blk2 X1.out
      go_wp2_with (at_builtin; refine wpList_append_own _ rfl _ _ 45 rfl (w.heap.size + 1) 9 i0 (.string ⟨#[]⟩) 1 by0 Tryz.underlying45 hi hz0 hz1 hz2 rfl (by decide) _ _ _ rfl (HMv.out.own.alloc _) ⟨wv.heap.size, 0, none⟩ 1 1 ([xt].flatMap Cells.cells) rfl rfl (cells_new wv ([.string xt]) _) flat_one (by unfold maxLen; omega) (Nat.le_trans (Nat.mul_le_mul (by omega : out.length + 1 ≤ 1048577) hby) (by decide)) (by simp; omega) ?_; intro v' w3 hown' hgrow hiff; have h9 := made_app (l := out) (l2 := [xt]) (n := out.length) (m := 1) (gb := gb) (cb := cb) hown' rfl rfl hiff; obtain ⟨gb', cb', rfl, hM'⟩ := h9; have HM' := Lib.hid hM'; have HGR := Lib.hid hgrow; clear hown' hgrow hM' hiff)
      go_roundw
      case rel => exact ⟨k + 1, gb', cb', by omega, by go_num, by rw [HT.out]; first | rfl | simp, by rw [HT.out]; exact HM'.out, (HBv.out.alloc HBv.out.size _).grown HGR.out (by simp; omega) (by intro k' e; have e1 := Option.some.inj e; dsimp only at e1; omega)⟩
      case measure => simp [intOf]; omega
    · obtain rfl : k = n := by omega
      have hlt' : ¬ (k : Int) < (k : Int) := by omega
      have hR : Hid (out = l.map WordV.t) := by show _ = _; rw [← HO.out, List.take_of_length_le (by rw [E.out.1]; omega)]
      go_wp2
      go_ret
      exact ⟨gb, cb, by rw [hR.out, List.length_map]; rfl, by rw [← hR.out]; exact HM.out.mono (by omega), HB.out⟩

theorem wordEarly_any (q : WordV) (w : World) : Calls Tryz.prog 46 #[q.val] w fun e w' => e = .returned (.bool q.e) ∧ Below w.heap.size w w' := by
  obtain ⟨xt, xp⟩ := q
  have HV : Hid (WordV.val ⟨xt, xp⟩ = .agg #[.string xt, .bool xp]) := rfl
  rw [HV.out]
  obtain ⟨W0, hW0⟩ : ∃ W, w.alloc (.cells #[.string xt, .bool xp] 49) = W := ⟨_, rfl⟩
  have K0 : Hid (Below w.heap.size w W0) := by rw [← hW0]; exact (Below.refl _ w).alloc (Nat.le_refl _) _
  have S0 : Hid (W0.heap[w.heap.size]? = some (.cells #[.string xt, .bool xp] 49)) := by rw [← hW0]; exact heap1 w _
  obtain ⟨⟨a0, a1⟩, _⟩ := blk2 S0.out
  go_enter Tryz.func46, Tryz.ntmps46
  go_wp2
  go_ret
  exact ⟨rfl, K0.out⟩

set_option maxRecDepth 100000 in
set_option maxHeartbeats 8000000 in
theorem earlyOnes_any (A : Option Addr) (n cap : Nat) (l : List WordV) (w : World) (h : EltsO w w.heap.size A n l) (hn : n ≤ 1048576) :
    Calls Tryz.prog 45 #[.slice A n cap, .func (.func 46) #[] #[]] w fun e w' => (∃ (B : Option Addr) (c : Nat), e = .returned (.slice B (earlyN l) c)) ∧ Below w.heap.size w w' := by
  obtain ⟨i0, by0, hi, hz0, hz1, hz2, hby⟩ := infoWordE
  have E := Lib.hid h
  clear h
  go_enter Tryz.func45, Tryz.ntmps45
  go_wp2
  go_loopw [5, 11] (fun v i wr => ∃ (k gb cb : Nat) (out : List WordV), k ≤ n ∧ i = .int .i64 k ∧ v = .slice (some ⟨gb, 0, none⟩) out.length cb ∧ out.length = earlyN (l.take k) ∧ MadeE wr w.heap.size 49 out gb cb ∧ Below w.heap.size w wr) (fun _ i _ => n - (intOf i).toNat)
  case atStart => exact ⟨0, w.heap.size, 0, [], Nat.zero_le _, rfl, rfl, by simp [earlyN], madeG_nil (heap1 w _) (Nat.le_refl _), (Below.refl _ w).alloc (Nat.le_refl _) _⟩
  case round =>
    obtain ⟨k, gb, cb, out, hk, rfl, rfl, hO, hM, hB⟩ := hrel
    have holen : out.length ≤ n := by
      have h1 := early_le (l.take k)
      have h2 : (l.take k).length ≤ k := by rw [List.length_take]; omega
      omega
    have HM := Lib.hid hM
    have HB := Lib.hid hB
    have HO := Lib.hid hO
    have hgb := hM.base
    have hsB := hB.size
    clear hM hB hO
    by_cases hlt : k < n
    · obtain ⟨b, off, rfl, hb, hc⟩ := E.out.2 (by omega)
      obtain ⟨⟨xt, xp⟩, hx⟩ : ∃ x, l[k]? = some x := ⟨_, List.getElem?_eq_getElem (by rw [E.out.1]; exact hlt)⟩
      have g1 : At w b (off + k * 2) _ := hc k _ hx
      obtain ⟨c0, c1⟩ := word_at (g1.heap (HB.out.block b hb))
      dsimp only at c0 c1
      have hk0 : (0 : Int) ≤ (k : Int) := by omega
      have hkn : (k : Int) < (n : Int) := by omega
      have HS := Lib.hid (early_step hx)
      clear hx hc g1
      obtain ⟨W1, hW1⟩ : ∃ V, wr.alloc (.cells #[.string xt, .bool xp] 49) = V := ⟨_, rfl⟩
      have HM1 : Hid (MadeE W1 w.heap.size 49 out gb cb) := by rw [← hW1]; exact HM.out.below ((Below.refl _ wr).alloc (Nat.le_refl _) _)
      have HB1 : Hid (Below w.heap.size w W1) := by rw [← hW1]; exact HB.out.alloc HB.out.size _
      have X1 : Hid (W1.heap[wr.heap.size]? = some (.cells #[.string xt, .bool xp] 49)) := by rw [← hW1]; exact heap1 wr _
      have cE : Hid (∀ w' : World, Calls Tryz.prog 46 #[.agg #[.string xt, .bool xp]] w' fun e w'' => e = .returned (.bool xp) ∧ Below w'.heap.size w' w'') := fun w' => wordEarly_any ⟨xt, xp⟩ w'
      go_wp2_with (refine wpList_load_row rfl 49 _ rfl (wr.heap.size) rfl 49 _ (0, 0) _ X1.out Tryz.underlying49 rfl (by kernel_rfl) ?_)
      refine (cE.out _).mono ?_
      rintro e w2 ⟨rfl, b2⟩
      have HM2 := Lib.hid (HM1.out.below b2)
      have HB2 := Lib.hid (HB1.out.trans (b2.mono HB1.out.size))
      have X2 := Lib.hid (blk_on b2 X1.out)
      have hs2 := b2.size
      have hs1 : wr.heap.size < W1.heap.size := blk_in X1.out
      clear b2 HM1 HB1 X1 HM HB
      try clear hW1
      cases xp with
      | false =>
        go_wp2
        go_roundw
        case rel => exact ⟨k + 1, gb, cb, out, by omega, by go_num, rfl, by rw [HO.out, HS.out]; rfl, HM2.out, HB2.out⟩
        case measure => simp [intOf]; omega
      | true =>
        obtain ⟨⟨a0, a1⟩, _⟩ := blk2 X2.out
        go_wp2_with (at_builtin; refine wpList_append_own _ rfl _ _ 74 rfl w.heap.size 49 i0 WordV.zero.val 2 by0 Tryz.underlying74 hi hz0 hz1 hz2 rfl (by decide) _ out.length (out.flatMap Cells.cells) rfl (HM2.out.own.alloc _) ⟨w2.heap.size, 0, none⟩ 1 1 ([(⟨xt, true⟩ : WordV)].flatMap Cells.cells) rfl rfl (cells_new w2 ([.string xt, .bool true]) _) flat_one (by unfold maxLen; omega) (Nat.le_trans (Nat.mul_le_mul (by omega : out.length + 1 ≤ 1048577) hby) (by decide)) (by simp; omega) ?_; intro v' w3 hown' hgrow hiff; have h9 := made_app (l := out) (l2 := [(⟨xt, true⟩ : WordV)]) (n := out.length) (m := 1) (gb := gb) (cb := cb) hown' rfl rfl hiff; obtain ⟨gb', cb', rfl, hM'⟩ := h9; have HM' := Lib.hid hM'; have HGR := Lib.hid hgrow; clear hown' hgrow hM' hiff)
        go_roundw
        case rel => exact ⟨k + 1, gb', cb', out ++ [⟨xt, true⟩], by omega, by go_num, by first | rfl | simp, by rw [List.length_append, HO.out, HS.out]; rfl, HM'.out, (HB2.out.alloc HB2.out.size _).grown HGR.out (by simp; omega) (by intro k' e; have e1 := Option.some.inj e; dsimp only at e1; omega)⟩
        case measure => simp [intOf]; omega
    · obtain rfl : k = n := by omega
      have hlt' : ¬ (k : Int) < (k : Int) := by omega
      have hR : out.length = earlyN l := by rw [HO.out, List.take_of_length_le (by rw [E.out.1]; omega)]
      rw [hR]
      go_wp2
      go_ret
      exact ⟨⟨_, _, rfl⟩, HB.out⟩

set_option maxRecDepth 100000 in
set_option maxHeartbeats 4000000 in
theorem EarlyIn_impl (s : SeatV) (A : Option Addr) (n cap : Nat) (l : List WordV) (w : World) (h : EltsO w w.heap.size A n l) (hn : n ≤ 1048576) :
    Calls Tryz.prog 17 #[s.val A n cap] w fun e w' => e = .returned (.int .i64 ((earlyN l : Nat) : Int)) ∧ Below w.heap.size w w' := by
  have E := Lib.hid h
  clear h
  have hs1 := early_le l
  have hs2 := E.out.1
  obtain ⟨st, sh, sd, sp, ⟨⟨eu, es, eh, ea⟩, en⟩, ⟨⟨fu, fs, fh, fa⟩, fn⟩⟩ := s
  have HV : Hid (SeatV.val ⟨st, sh, sd, sp, ⟨⟨eu, es, eh, ea⟩, en⟩, ⟨⟨fu, fs, fh, fa⟩, fn⟩⟩ A n cap = .agg #[.int .i64 st, .int .i64 sh, .int .i64 sd, .int .i64 sp, .int .i64 eu, .int .i64 es, .int .i64 eh, .int .i64 ea, .int .i64 en, .int .i64 fu, .int .i64 fs, .int .i64 fh, .int .i64 fa, .int .i64 fn, .slice A n cap]) := rfl
  rw [HV.out]
  clear HV
  obtain ⟨W0, hW0⟩ : ∃ W, w.alloc (.cells #[.int .i64 st, .int .i64 sh, .int .i64 sd, .int .i64 sp, .int .i64 eu, .int .i64 es, .int .i64 eh, .int .i64 ea, .int .i64 en, .int .i64 fu, .int .i64 fs, .int .i64 fh, .int .i64 fa, .int .i64 fn, .slice A n cap] 30) = W := ⟨_, rfl⟩
  have K0 : Hid (Below w.heap.size w W0) := by rw [← hW0]; exact (Below.refl _ w).alloc (Nat.le_refl _) _
  have S0 : Hid (W0.heap[w.heap.size]? = some (.cells #[.int .i64 st, .int .i64 sh, .int .i64 sd, .int .i64 sp, .int .i64 eu, .int .i64 es, .int .i64 eh, .int .i64 ea, .int .i64 en, .int .i64 fu, .int .i64 fs, .int .i64 fh, .int .i64 fa, .int .i64 fn, .slice A n cap] 30)) := by rw [← hW0]; exact heap1 w _
  obtain ⟨⟨a0, a1, a2, a3, a4, a5, a6, a7, a8, a9, a10, a11, a12, a13, a14⟩, _⟩ := blk15 S0.out
  go_enter Tryz.func17, Tryz.ntmps17
  go_wp2_with fail
  clear hW0
  refine (earlyOnes_any A n cap l _ ((E.out.below K0.out).mono K0.out.size) hn).mono ?_
  rintro e w1 ⟨⟨B, c, rfl⟩, hb⟩
  have K1 := Lib.hid (K0.out.trans (hb.mono K0.out.size))
  clear hb
  go_wp2
  go_ret
  exact ⟨rfl, K1.out⟩


end Go.Proofs.YtchdmmlkgglmcaaGreatDoor.Tx
namespace Go.Proofs.YtchdmmlkgglmcaaGreatDoor.Tx
open Go.RowKit


set_option maxHeartbeats 4000000 in
theorem Take_impl (r : RowV) (b : BoxV) (w : World) : Calls Tryz.prog 116 #[r.val, b.val] w fun e w' => e = .returned (.tuple #[(takeR r b).val, .string (takeT r b), .bool (takeB r b)]) ∧ Below w.heap.size w w' := by
  obtain ⟨⟨u, s, h, a⟩, no⟩ := r
  obtain ⟨⟨xu, xs, xh, xa⟩, xn, xt, xp⟩ := b
  have HV : Hid (RowV.val ⟨⟨u, s, h, a⟩, no⟩ = .agg #[.int .i64 u, .int .i64 s, .int .i64 h, .int .i64 a, .int .i64 no]) := rfl
  have HV' : Hid (BoxV.val ⟨⟨xu, xs, xh, xa⟩, xn, xt, xp⟩ = .agg #[.int .i64 xu, .int .i64 xs, .int .i64 xh, .int .i64 xa, .int .i64 xn, .string xt, .bool xp]) := rfl
  rw [HV.out, HV'.out]
  go_enter Tryz.func116, Tryz.ntmps116
  go_wp2_with fail
  refine (keyed_any ⟨⟨u, s, h, a⟩, no⟩ _).mono ?_
  rintro e w1 ⟨rfl, hb⟩
  have K1 := Lib.hid (blk_on hb (heap3a w _ _ _))
  have X1 := Lib.hid (blk_on hb (heap3b w _ _ _))
  have R1 := Lib.hid (blk_on hb (heap3c w _ _ _))
  have L1 := Lib.hid (below_new3 hb)
  have s1 := blk_in R1.out
  clear hb
  rw [HV.out]
  go_wp2_with fail
  refine (rowRight_any ⟨⟨u, s, h, a⟩, no⟩ _).mono ?_
  rintro e w2 ⟨rfl, b2⟩
  have K2 := Lib.hid (blk_on b2 (alloc_blk K1.out))
  have X2 := Lib.hid (blk_on b2 (alloc_blk X1.out))
  have R2 := Lib.hid (blk_on b2 (alloc_blk R1.out))
  have Y2 := Lib.hid (blk_on b2 (heap1 w1 _))
  have L2 := Lib.hid ((L1.out.alloc L1.out.size _).trans (b2.mono (L1.out.alloc L1.out.size _).size))
  clear b2 K1 R1 X1 L1
  cases hr : rowOkB ⟨⟨u, s, h, a⟩, no⟩ with
  | false =>
    have HR : Hid (takeR ⟨⟨u, s, h, a⟩, no⟩ ⟨⟨xu, xs, xh, xa⟩, xn, xt, xp⟩ = .zero ∧ takeT ⟨⟨u, s, h, a⟩, no⟩ ⟨⟨xu, xs, xh, xa⟩, xn, xt, xp⟩ = ⟨#[]⟩ ∧ takeB ⟨⟨u, s, h, a⟩, no⟩ ⟨⟨xu, xs, xh, xa⟩, xn, xt, xp⟩ = false) := by
      have e : takeB ⟨⟨u, s, h, a⟩, no⟩ ⟨⟨xu, xs, xh, xa⟩, xn, xt, xp⟩ = false := by simp [takeB, hr]
      exact ⟨by simp [takeR, hr], by simp [takeT, e], e⟩
    clear hr
    obtain ⟨⟨a0, a1, a2, a3, a4⟩, q0, q1, q2, q3, q4⟩ := blk5 R2.out
    go_wp2
    refine row_ret3 (r := w.heap.size + 1 + 1) (cs := List.toArray RowV.zero.cells) rfl rfl rfl rfl (setAll_whole (w := w2) (vs := RowV.zero.cells) R2.out rfl) Tryz.underlying27 rfl (by kernel_rfl) rfl ⟨?_, setAll_below (w := w2) (by omega) RowV.zero.cells 0 L2.out⟩
    rw [HR.out.1, HR.out.2.1, HR.out.2.2]
    rfl
  | true =>
    obtain ⟨⟨d0, d1, d2, d3, d4⟩, _⟩ := blk5 Y2.out
    obtain ⟨⟨c0, c1, c2, c3, c4, c5, c6⟩, _⟩ := blk7 X2.out
    go_wp2_with fail
    clear d0 d1 d2 d3 d4 c0 c1 c2 c3 c4 c5 c6
    refine (open_any ⟨u, s, h, a⟩ ⟨⟨xu, xs, xh, xa⟩, xn, xt, xp⟩ no _).mono ?_
    rintro e w3 ⟨rfl, b3⟩
    replace K2 := Lib.hid (blk_on b3 K2.out)
    replace R2 := Lib.hid (blk_on b3 R2.out)
    replace Y2 := Lib.hid (blk_on b3 Y2.out)
    replace L2 := Lib.hid (L2.out.trans (b3.mono L2.out.size))
    clear b3 X2
    cases ho : openB ⟨⟨xu, xs, xh, xa⟩, xn, xt, xp⟩ ⟨u, s, h, a⟩ no with
    | false =>
      have HR : Hid (takeR ⟨⟨u, s, h, a⟩, no⟩ ⟨⟨xu, xs, xh, xa⟩, xn, xt, xp⟩ = ⟨⟨u, s, h, a⟩, no⟩ ∧ takeT ⟨⟨u, s, h, a⟩, no⟩ ⟨⟨xu, xs, xh, xa⟩, xn, xt, xp⟩ = ⟨#[]⟩ ∧ takeB ⟨⟨u, s, h, a⟩, no⟩ ⟨⟨xu, xs, xh, xa⟩, xn, xt, xp⟩ = false) := by
        have e : takeB ⟨⟨u, s, h, a⟩, no⟩ ⟨⟨xu, xs, xh, xa⟩, xn, xt, xp⟩ = false := by simp [takeB, ho]
        exact ⟨by simp [takeR, hr, e], by simp [takeT, e], e⟩
      rw [open_false ho]
      obtain ⟨⟨a0, a1, a2, a3, a4⟩, q0, q1, q2, q3, q4⟩ := blk5 R2.out
      obtain ⟨⟨d0, d1, d2, d3, d4⟩, _⟩ := blk5 K2.out
      go_wp2
      refine row_ret3 (r := w.heap.size + 1 + 1) (cs := List.toArray (RowV.cells ⟨⟨u, s, h, a⟩, no⟩)) rfl rfl rfl rfl (setAll_whole (w := w3) (vs := (RowV.cells ⟨⟨u, s, h, a⟩, no⟩)) R2.out rfl) Tryz.underlying27 rfl (by kernel_rfl) rfl ⟨?_, setAll_below (w := w3) (by omega) (RowV.cells ⟨⟨u, s, h, a⟩, no⟩) 0 L2.out⟩
      rw [HR.out.1, HR.out.2.1, HR.out.2.2]
      rfl
    | true =>
      rw [(open_true ho).2.2.2]
      obtain ⟨⟨d0, d1, d2, d3, d4⟩, _⟩ := blk5 Y2.out
      go_wp2_with fail
      clear d0 d1 d2 d3 d4
      refine (goesOn_any ⟨⟨u, s, h, a⟩, no⟩ _).mono ?_
      rintro e w4 ⟨rfl, b4⟩
      replace K2 := Lib.hid (blk_on b4 K2.out)
      replace R2 := Lib.hid (blk_on b4 R2.out)
      replace Y2 := Lib.hid (blk_on b4 Y2.out)
      replace L2 := Lib.hid (L2.out.trans (b4.mono L2.out.size))
      clear b4
      cases hg : goesB ⟨⟨u, s, h, a⟩, no⟩ with
      | false =>
        have HR : Hid (takeR ⟨⟨u, s, h, a⟩, no⟩ ⟨⟨xu, xs, xh, xa⟩, xn, xt, xp⟩ = ⟨⟨u, s, h, a⟩, no⟩ ∧ takeT ⟨⟨u, s, h, a⟩, no⟩ ⟨⟨xu, xs, xh, xa⟩, xn, xt, xp⟩ = ⟨#[]⟩ ∧ takeB ⟨⟨u, s, h, a⟩, no⟩ ⟨⟨xu, xs, xh, xa⟩, xn, xt, xp⟩ = false) := by
          have e : takeB ⟨⟨u, s, h, a⟩, no⟩ ⟨⟨xu, xs, xh, xa⟩, xn, xt, xp⟩ = false := by simp [takeB, hg]
          exact ⟨by simp [takeR, hr, e], by simp [takeT, e], e⟩
        obtain ⟨⟨a0, a1, a2, a3, a4⟩, q0, q1, q2, q3, q4⟩ := blk5 R2.out
        obtain ⟨⟨d0, d1, d2, d3, d4⟩, _⟩ := blk5 K2.out
        go_wp2
        refine row_ret3 (r := w.heap.size + 1 + 1) (cs := List.toArray (RowV.cells ⟨⟨u, s, h, a⟩, no⟩)) rfl rfl rfl rfl (setAll_whole (w := w4) (vs := (RowV.cells ⟨⟨u, s, h, a⟩, no⟩)) R2.out rfl) Tryz.underlying27 rfl (by kernel_rfl) rfl ⟨?_, setAll_below (w := w4) (by omega) (RowV.cells ⟨⟨u, s, h, a⟩, no⟩) 0 L2.out⟩
        rw [HR.out.1, HR.out.2.1, HR.out.2.2]
        rfl
      | true =>
        obtain ⟨hn0, hn1⟩ := goes_range hg hr
        dsimp only at hn0 hn1
        have HR : Hid (takeR ⟨⟨u, s, h, a⟩, no⟩ ⟨⟨xu, xs, xh, xa⟩, xn, xt, xp⟩ = ⟨⟨u, s, h, a⟩, no + 1⟩ ∧ takeT ⟨⟨u, s, h, a⟩, no⟩ ⟨⟨xu, xs, xh, xa⟩, xn, xt, xp⟩ = xt ∧ takeB ⟨⟨u, s, h, a⟩, no⟩ ⟨⟨xu, xs, xh, xa⟩, xn, xt, xp⟩ = true) := by
          have e : takeB ⟨⟨u, s, h, a⟩, no⟩ ⟨⟨xu, xs, xh, xa⟩, xn, xt, xp⟩ = true := by simp [takeB, hr, ho, hg]
          exact ⟨by simp [takeR, hr, e, RowV.on], by simp [takeT, e], e⟩
        obtain ⟨⟨d0, d1, d2, d3, d4⟩, _⟩ := blk5 Y2.out
        go_wp2_with fail
        clear d0 d1 d2 d3 d4
        refine (rowNext_any ⟨⟨u, s, h, a⟩, no⟩ hn0 hn1 _).mono ?_
        rintro e w5 ⟨rfl, b5⟩
        replace R2 := Lib.hid (blk_on b5 R2.out)
        replace L2 := Lib.hid (L2.out.trans (b5.mono L2.out.size))
        clear b5
        have HN : Hid (RowV.val (RowV.on ⟨⟨u, s, h, a⟩, no⟩) = .agg #[.int .i64 u, .int .i64 s, .int .i64 h, .int .i64 a, .int .i64 (no + 1)]) := rfl
        rw [HN.out]
        obtain ⟨⟨a0, a1, a2, a3, a4⟩, q0, q1, q2, q3, q4⟩ := blk5 R2.out
        go_wp2
        refine row_ret3 (r := w.heap.size + 1 + 1) (cs := List.toArray (RowV.cells ⟨⟨u, s, h, a⟩, no + 1⟩)) rfl rfl rfl rfl (setAll_whole (w := w5) (vs := (RowV.cells ⟨⟨u, s, h, a⟩, no + 1⟩)) R2.out rfl) Tryz.underlying27 rfl (by kernel_rfl) rfl ⟨?_, setAll_below (w := w5) (by omega) (RowV.cells ⟨⟨u, s, h, a⟩, no + 1⟩) 0 L2.out⟩
        rw [HR.out.1, HR.out.2.1, HR.out.2.2]
        rfl

end Go.Proofs.YtchdmmlkgglmcaaGreatDoor.Tx
namespace Go.Proofs.YtchdmmlkgglmcaaGreatDoor.Tx
open Go.RowKit

theorem asE (v : Value) (w : World) : (Instr.typeAssert (.iface 85 v) 61 112 true).run Tryz.prog w = .ok (.tuple #[.iface 85 v, .bool true]) w := by kernel_rfl
theorem asF (v : Value) (w : World) : (Instr.typeAssert (.iface 86 v) 61 112 true).run Tryz.prog w = .ok (.tuple #[.nilIface, .bool false]) w := run_typeAssert_lacksB Tryz.underlying112 (by kernel_rfl) (by kernel_rfl) v 61 w

set_option maxHeartbeats 4000000 in
theorem endBehind_any (n : Nat) (hn : n ≤ 1048576) (w : World) (ht : Tab w) : Calls Tryz.prog 77 #[.int .i64 (n : Int)] w fun e w' => e = .returned (.string (endT n)) ∧ Below w.heap.size w w' := by
  have cF := fmt_any (n : Int) ⟨by omega, by omega⟩ w ht
  have hs : (intT (n : Int)).size ≤ 19 := by rw [intT, if_neg (by omega)]; exact (decT_size (by omega)).2
  unfold endT
  generalize intT (n : Int) = tx at cF hs ⊢
  have h9 : ¬ 9223372036854775807 < 3 + tx.size := by omega
  clear ht hs
  go_enter Tryz.func77, Tryz.ntmps77
  go_wp2_with fail
  refine cF.mono ?_
  rintro e w1 ⟨rfl, hb⟩
  go_wp2
  go_ret
  exact ⟨rfl, hb⟩

set_option maxRecDepth 100000 in
set_option maxHeartbeats 16000000 in
theorem heardFirst_any (s : SeatV) (A : Option Addr) (n cap : Nat) (t : ByteArray) (hn : n ≤ 1048576) (w : World) (ht : Tab w) : Calls Tryz.prog 71 #[s.val A n cap, .string t] w fun e w' => e = .returned (.int .i64 (if isEnd t n then 2 else 0)) ∧ Below w.heap.size w w' := by
  obtain ⟨st, sh, sd, sp, ⟨⟨eu, es, eh, ea⟩, en⟩, ⟨⟨fu, fs, fh, fa⟩, fn⟩⟩ := s
  have HV : Hid (SeatV.val ⟨st, sh, sd, sp, ⟨⟨eu, es, eh, ea⟩, en⟩, ⟨⟨fu, fs, fh, fa⟩, fn⟩⟩ A n cap = .agg #[.int .i64 st, .int .i64 sh, .int .i64 sd, .int .i64 sp, .int .i64 eu, .int .i64 es, .int .i64 eh, .int .i64 ea, .int .i64 en, .int .i64 fu, .int .i64 fs, .int .i64 fh, .int .i64 fa, .int .i64 fn, .slice A n cap]) := rfl
  rw [HV.out]
  clear HV
  have HTB := Lib.hid ht
  have cE := Lib.hid fun (w' : World) hT => endBehind_any n hn w' hT
  unfold isEnd
  generalize endT n = tn at cE ⊢
  clear ht
  obtain ⟨y, hy⟩ : ∃ y : Int, (if t.toList == tn.toList then 2 else 0) = y := ⟨_, rfl⟩
  rw [hy]
  have HY := Lib.hid hy
  clear hy
  obtain ⟨W0, hW0⟩ : ∃ W, w.alloc (.cells #[.int .i64 st, .int .i64 sh, .int .i64 sd, .int .i64 sp, .int .i64 eu, .int .i64 es, .int .i64 eh, .int .i64 ea, .int .i64 en, .int .i64 fu, .int .i64 fs, .int .i64 fh, .int .i64 fa, .int .i64 fn, .slice A n cap] 30) = W := ⟨_, rfl⟩
  have K0 : Hid (Below w.heap.size w W0) := by rw [← hW0]; exact (Below.refl _ w).alloc (Nat.le_refl _) _
  have S0 : Hid (W0.heap[w.heap.size]? = some (.cells #[.int .i64 st, .int .i64 sh, .int .i64 sd, .int .i64 sp, .int .i64 eu, .int .i64 es, .int .i64 eh, .int .i64 ea, .int .i64 en, .int .i64 fu, .int .i64 fs, .int .i64 fh, .int .i64 fa, .int .i64 fn, .slice A n cap] 30)) := by rw [← hW0]; exact heap1 w _
  go_enter Tryz.func71, Tryz.ntmps71
  obtain ⟨⟨a0, a1, a2, a3, a4, a5, a6, a7, a8, a9, a10, a11, a12, a13, a14⟩, _⟩ := blk15 S0.out
  go_wp2_with fail
  clear a0 a1 a2 a3 a4 a5 a6 a7 a8 a9 a10 a11 a12 a13 a14
  clear hW0
  refine (cE.out _ (HTB.out.on K0.out)).mono ?_
  rintro e w1 ⟨rfl, hb⟩
  have S1 := Lib.hid (blk_on hb S0.out)
  have K1 := Lib.hid (K0.out.trans (hb.mono K0.out.size))
  clear hb S0 K0
  cases htx : t.toList == tn.toList
  ·
    have htx2 : (t.toList != tn.toList) = true := by rw [bne, htx]; rfl
    have HE : Hid (y = 0) := by show _ = _; rw [← HY.out, htx]; rfl
    go_wp2
    go_ret
    exact ⟨by rw [HE.out]; rfl, K1.out⟩
  ·
    have htx2 : (t.toList != tn.toList) = false := by rw [bne, htx]; rfl
    have HE : Hid (y = 2) := by show _ = _; rw [← HY.out, htx]; rfl
    go_wp2
    go_ret
    exact ⟨by rw [HE.out]; rfl, K1.out⟩

theorem rowEarly_any (r : RowV) (w : World) : Calls Tryz.prog 114 #[r.val] w fun e w' => e = .returned (.bool true) ∧ Below w.heap.size w w' := by
  obtain ⟨⟨ru, rs, rh, ra⟩, rn⟩ := r
  have HV : Hid (RowV.val ⟨⟨ru, rs, rh, ra⟩, rn⟩ = .agg #[.int .i64 ru, .int .i64 rs, .int .i64 rh, .int .i64 ra, .int .i64 rn]) := rfl
  rw [HV.out]
  have K0 : Hid (Below w.heap.size w (w.alloc (.cells #[.int .i64 ru, .int .i64 rs, .int .i64 rh, .int .i64 ra, .int .i64 rn] 85))) := (Below.refl _ w).alloc (Nat.le_refl _) _
  go_enter Tryz.func114, Tryz.ntmps114
  go_wp2
  go_ret
  exact ⟨rfl, K0.out⟩

set_option maxRecDepth 100000 in
set_option maxHeartbeats 16000000 in
theorem isEarlyRow_e (r : RowV) (w : World) : Calls Tryz.prog 70 #[.iface 85 r.val] w fun e w' => e = .returned (.bool true) ∧ Below w.heap.size w w' := by
  have as0 := asE r.val
  have cR := Lib.hid fun (w' : World) => rowEarly_any r w'
  generalize r.val = v at as0 cR ⊢
  go_enter Tryz.func70, Tryz.ntmps70
  go_wp2_with fail
  refine (cR.out _).mono ?_
  rintro e w1 ⟨rfl, hb⟩
  go_wp2
  go_ret
  exact ⟨rfl, hb⟩

set_option maxRecDepth 100000 in
set_option maxHeartbeats 16000000 in
theorem isEarlyRow_f (r : RowV) (w : World) : Calls Tryz.prog 70 #[.iface 86 r.val] w fun e w' => e = .returned (.bool false) ∧ Below w.heap.size w w' := by
  have as0 := asF r.val
  generalize r.val = v at as0 ⊢
  go_enter Tryz.func70, Tryz.ntmps70
  go_wp2
  go_ret
  exact ⟨rfl, Below.refl _ _⟩


set_option maxRecDepth 100000 in
set_option maxHeartbeats 16000000 in
theorem heardAs_e (s : SeatV) (A : Option Addr) (n cap : Nat) (r : RowV) (t : ByteArray) (_ : n ≤ 1048576) (w : World) : Calls Tryz.prog 54 #[s.val A n cap, .iface 85 r.val, .string t] w fun e w' => e = .returned (.int .i64 (if n = 60 then 0 else 1)) ∧ Below w.heap.size w w' := by
  have c0 := Lib.hid fun (w' : World) => isEarlyRow_e r w'
  generalize r.val = v at c0 ⊢
  obtain ⟨st, sh, sd, sp, ⟨⟨eu, es, eh, ea⟩, en⟩, ⟨⟨fu, fs, fh, fa⟩, fn⟩⟩ := s
  have HV : Hid (SeatV.val ⟨st, sh, sd, sp, ⟨⟨eu, es, eh, ea⟩, en⟩, ⟨⟨fu, fs, fh, fa⟩, fn⟩⟩ A n cap = .agg #[.int .i64 st, .int .i64 sh, .int .i64 sd, .int .i64 sp, .int .i64 eu, .int .i64 es, .int .i64 eh, .int .i64 ea, .int .i64 en, .int .i64 fu, .int .i64 fs, .int .i64 fh, .int .i64 fa, .int .i64 fn, .slice A n cap]) := rfl
  rw [HV.out]
  clear HV
  obtain ⟨y, hy⟩ : ∃ y : Int, (if n = 60 then 0 else 1) = y := ⟨_, rfl⟩
  rw [hy]
  have HY := Lib.hid hy
  clear hy
  obtain ⟨W0, hW0⟩ : ∃ W, w.alloc (.cells #[.int .i64 st, .int .i64 sh, .int .i64 sd, .int .i64 sp, .int .i64 eu, .int .i64 es, .int .i64 eh, .int .i64 ea, .int .i64 en, .int .i64 fu, .int .i64 fs, .int .i64 fh, .int .i64 fa, .int .i64 fn, .slice A n cap] 30) = W := ⟨_, rfl⟩
  have K0 : Hid (Below w.heap.size w W0) := by rw [← hW0]; exact (Below.refl _ w).alloc (Nat.le_refl _) _
  have S0 : Hid (W0.heap[w.heap.size]? = some (.cells #[.int .i64 st, .int .i64 sh, .int .i64 sd, .int .i64 sp, .int .i64 eu, .int .i64 es, .int .i64 eh, .int .i64 ea, .int .i64 en, .int .i64 fu, .int .i64 fs, .int .i64 fh, .int .i64 fa, .int .i64 fn, .slice A n cap] 30)) := by rw [← hW0]; exact heap1 w _
  go_enter Tryz.func54, Tryz.ntmps54
  go_wp2_with fail
  clear hW0
  refine (c0.out _).mono ?_
  rintro e w1 ⟨rfl, hb⟩
  have S1 := Lib.hid (blk_on hb S0.out)
  have K1 := Lib.hid (K0.out.trans (hb.mono K0.out.size))
  clear hb S0 K0
  by_cases hs : st = 1
  ·
    have hsq : (st == 1) = true := beq_int hs
    clear hs
    by_cases h60 : n = 60
    ·
      have h61 : ((n : Int) == 60) = true := beq_int (by omega)
      have HE : Hid (y = 0) := by show _ = _; rw [← HY.out, if_pos h60]
      clear h60
      obtain ⟨⟨a0, a1, a2, a3, a4, a5, a6, a7, a8, a9, a10, a11, a12, a13, a14⟩, _⟩ := blk15 S1.out
      go_wp2
      go_ret
      exact ⟨by rw [HE.out]; rfl, K1.out⟩
    ·
      have h61 : ((n : Int) == 60) = false := bne_int (by omega)
      have HE : Hid (y = 1) := by show _ = _; rw [← HY.out, if_neg h60]
      clear h60
      obtain ⟨⟨a0, a1, a2, a3, a4, a5, a6, a7, a8, a9, a10, a11, a12, a13, a14⟩, _⟩ := blk15 S1.out
      go_wp2
      go_ret
      exact ⟨by rw [HE.out]; rfl, K1.out⟩
  ·
    have hsq : (st == 1) = false := bne_int hs
    clear hs
    by_cases h60 : n = 60
    ·
      have h61 : ((n : Int) == 60) = true := beq_int (by omega)
      have HE : Hid (y = 0) := by show _ = _; rw [← HY.out, if_pos h60]
      clear h60
      obtain ⟨⟨a0, a1, a2, a3, a4, a5, a6, a7, a8, a9, a10, a11, a12, a13, a14⟩, _⟩ := blk15 S1.out
      go_wp2
      go_ret
      exact ⟨by rw [HE.out]; rfl, K1.out⟩
    ·
      have h61 : ((n : Int) == 60) = false := bne_int (by omega)
      have HE : Hid (y = 1) := by show _ = _; rw [← HY.out, if_neg h60]
      clear h60
      obtain ⟨⟨a0, a1, a2, a3, a4, a5, a6, a7, a8, a9, a10, a11, a12, a13, a14⟩, _⟩ := blk15 S1.out
      go_wp2
      go_ret
      exact ⟨by rw [HE.out]; rfl, K1.out⟩

set_option maxRecDepth 100000 in
set_option maxHeartbeats 16000000 in
theorem heardAs_f (s : SeatV) (A : Option Addr) (n cap : Nat) (r : RowV) (t : ByteArray) (hn : n ≤ 1048576) (w : World) (ht : Tab w) : Calls Tryz.prog 54 #[s.val A n cap, .iface 86 r.val, .string t] w fun e w' => e = .returned (.int .i64 (if s.st = 1 then (if isEnd t n then 2 else 0) else if n = 60 then 0 else 3)) ∧ Below w.heap.size w w' := by
  have c0 := Lib.hid fun (w' : World) => isEarlyRow_f r w'
  generalize r.val = v at c0 ⊢
  have HTB := Lib.hid ht
  have cX' := fun (w' : World) hT => heardFirst_any s A n cap t hn w' hT
  generalize (if isEnd t n then (2 : Int) else 0) = y2 at cX' ⊢
  clear ht
  obtain ⟨st, sh, sd, sp, ⟨⟨eu, es, eh, ea⟩, en⟩, ⟨⟨fu, fs, fh, fa⟩, fn⟩⟩ := s
  have HV : Hid (SeatV.val ⟨st, sh, sd, sp, ⟨⟨eu, es, eh, ea⟩, en⟩, ⟨⟨fu, fs, fh, fa⟩, fn⟩⟩ A n cap = .agg #[.int .i64 st, .int .i64 sh, .int .i64 sd, .int .i64 sp, .int .i64 eu, .int .i64 es, .int .i64 eh, .int .i64 ea, .int .i64 en, .int .i64 fu, .int .i64 fs, .int .i64 fh, .int .i64 fa, .int .i64 fn, .slice A n cap]) := rfl
  rw [HV.out]
  rw [HV.out] at cX'
  have cX := Lib.hid cX'
  clear cX'
  dsimp only
  clear HV
  obtain ⟨y, hy⟩ : ∃ y : Int, (if st = 1 then y2 else if n = 60 then 0 else 3) = y := ⟨_, rfl⟩
  rw [hy]
  have HY := Lib.hid hy
  clear hy
  obtain ⟨W0, hW0⟩ : ∃ W, w.alloc (.cells #[.int .i64 st, .int .i64 sh, .int .i64 sd, .int .i64 sp, .int .i64 eu, .int .i64 es, .int .i64 eh, .int .i64 ea, .int .i64 en, .int .i64 fu, .int .i64 fs, .int .i64 fh, .int .i64 fa, .int .i64 fn, .slice A n cap] 30) = W := ⟨_, rfl⟩
  have K0 : Hid (Below w.heap.size w W0) := by rw [← hW0]; exact (Below.refl _ w).alloc (Nat.le_refl _) _
  have S0 : Hid (W0.heap[w.heap.size]? = some (.cells #[.int .i64 st, .int .i64 sh, .int .i64 sd, .int .i64 sp, .int .i64 eu, .int .i64 es, .int .i64 eh, .int .i64 ea, .int .i64 en, .int .i64 fu, .int .i64 fs, .int .i64 fh, .int .i64 fa, .int .i64 fn, .slice A n cap] 30)) := by rw [← hW0]; exact heap1 w _
  go_enter Tryz.func54, Tryz.ntmps54
  go_wp2_with fail
  clear hW0
  refine (c0.out _).mono ?_
  rintro e w1 ⟨rfl, hb⟩
  have S1 := Lib.hid (blk_on hb S0.out)
  have K1 := Lib.hid (K0.out.trans (hb.mono K0.out.size))
  clear hb S0 K0
  by_cases hs : st = 1
  ·
    have hsq : (st == 1) = true := beq_int hs
    have HE : Hid (y = y2) := by show _ = _; rw [← HY.out, if_pos hs]
    clear hs
    obtain ⟨⟨a0, a1, a2, a3, a4, a5, a6, a7, a8, a9, a10, a11, a12, a13, a14⟩, _⟩ := blk15 S1.out
    go_wp2_with fail
    clear a0 a1 a2 a3 a4 a5 a6 a7 a8 a9 a10 a11 a12 a13 a14
    refine (cX.out _ (HTB.out.on K1.out)).mono ?_
    rintro e w2 ⟨rfl, hb⟩
    have S2 := Lib.hid (blk_on hb S1.out)
    have K2 := Lib.hid (K1.out.trans (hb.mono K1.out.size))
    clear hb S1 K1
    go_wp2
    go_ret
    exact ⟨by rw [HE.out]; rfl, K2.out⟩
  ·
    have hsq : (st == 1) = false := bne_int hs
    by_cases h60 : n = 60
    ·
      have h61 : ((n : Int) == 60) = true := beq_int (by omega)
      have HE : Hid (y = 0) := by show _ = _; rw [← HY.out, if_neg hs, if_pos h60]
      clear h60 hs
      obtain ⟨⟨a0, a1, a2, a3, a4, a5, a6, a7, a8, a9, a10, a11, a12, a13, a14⟩, _⟩ := blk15 S1.out
      go_wp2
      go_ret
      exact ⟨by rw [HE.out]; rfl, K1.out⟩
    ·
      have h61 : ((n : Int) == 60) = false := bne_int (by omega)
      have HE : Hid (y = 3) := by show _ = _; rw [← HY.out, if_neg hs, if_neg h60]
      clear h60 hs
      obtain ⟨⟨a0, a1, a2, a3, a4, a5, a6, a7, a8, a9, a10, a11, a12, a13, a14⟩, _⟩ := blk15 S1.out
      go_wp2
      go_ret
      exact ⟨by rw [HE.out]; rfl, K1.out⟩

set_option maxRecDepth 100000 in
set_option maxHeartbeats 16000000 in
theorem copiedList_any (A : Option Addr) (n cap : Nat) (l : List WordV) (w : World) (h : EltsO w w.heap.size A n l) (hzc : A = none → cap = 0) (hn : n ≤ 1048576) :
    Calls Tryz.prog 55 #[.slice A n cap] w fun e w' => ∃ g cb, e = .returned (.slice (some ⟨g, 0, none⟩) n cb) ∧ MadeE w' w.heap.size 49 l g cb ∧ Below w.heap.size w w' := by
  obtain ⟨i0, by0, hi, hz0, hz1, hz2, hby⟩ := infoWordE
  have E := Lib.hid h
  have hz := Lib.hid hzc
  clear h hzc
  obtain ⟨W0, hW0⟩ : ∃ W, w.alloc (.cells #[] 49) = W := ⟨_, rfl⟩
  have K0 : Hid (Below w.heap.size w W0) := by rw [← hW0]; exact (Below.refl _ w).alloc (Nat.le_refl _) _
  have N0 : Hid (W0.heap[w.heap.size]? = some (.cells #[] 49)) := by rw [← hW0]; exact heap1 w _
  have E1 := Lib.hid (E.out.below K0.out)
  have hlt : w.heap.size < W0.heap.size := blk_in N0.out
  go_enter Tryz.func55, Tryz.ntmps55
  rcases A with _ | ad
  · have hn0 : n = 0 := by
      rcases Nat.eq_zero_or_pos n with h | h
      · exact h
      · obtain ⟨_, _, e, _⟩ := E.out.2 h; cases e
    subst hn0
    obtain rfl : l = [] := List.length_eq_zero_iff.1 E.out.1
    obtain rfl : cap = 0 := hz.out rfl
    have M0 : Hid (MadeE W0 w.heap.size 49 ([] : List WordV) w.heap.size 0) := madeG_nil N0.out (Nat.le_refl _)
    have hap := run_append_owned_none W0 w.heap.size 74 74 49 i0 2 Tryz.underlying74 hi _ 0 [] M0.out.own
    go_wp2
    go_ret
    exact ⟨w.heap.size, 0, rfl, M0.out, K0.out⟩
  · go_wp2_with (at_builtin; refine wpList_append_own _ rfl _ _ 74 rfl w.heap.size 49 i0 WordV.zero.val 2 by0 Tryz.underlying74 hi hz0 hz1 hz2 rfl (by decide) _ 0 [] rfl (madeG_nil N0.out (Nat.le_refl _)).own ad n cap (l.flatMap Cells.cells) rfl (by rw [flat_len, E.out.1]; rfl) (E1.out.cells (by omega)) flat_one (by unfold maxLen; omega) (Nat.le_trans (Nat.mul_le_mul (by omega : 0 + n ≤ 1048576) hby) (by decide)) (by omega) ?_; intro v' w3 hown' hgrow hiff; have h9 := made_app (l := ([] : List WordV)) (l2 := l) (n := 0) (m := n) (gb := w.heap.size) (cb := 0) hown' rfl E.out.1.symm hiff; obtain ⟨gb', cb', rfl, hM'⟩ := h9; have HM' : Hid (MadeE w3 w.heap.size 49 l gb' cb') := hM'; have HGR := Lib.hid hgrow; clear hown' hgrow hM' hiff)
    have hln : l.length = n := E.out.1
    try rw [List.nil_append]
    try simp only [hln]
    go_ret
    exact ⟨gb', cb', rfl, HM'.out, below_off K0.out HGR.out ⟨Nat.le_refl _, by omega⟩⟩

theorem EltsO.oncopy {α : Type} [Cells α] {w w' : World} {B n : Nat} {A : Option Addr} {l : List α} (h : EltsO w B A n l) (k : Below B w w') (hs : B ≤ w'.heap.size) : EltsO w' w'.heap.size A n l := (h.below k).mono hs

set_option maxRecDepth 100000 in
set_option maxHeartbeats 16000000 in
theorem copied_any (s : SeatV) (A : Option Addr) (n cap : Nat) (l : List WordV) (w : World) (h : EltsO w w.heap.size A n l) (hzc : A = none → cap = 0) (hn : n ≤ 1048576) :
    Calls Tryz.prog 27 #[s.val A n cap] w fun e w' => ∃ g cb, e = .returned (s.val (some ⟨g, 0, none⟩) n cb) ∧ MadeE w' w.heap.size 49 l g cb ∧ Below w.heap.size w w' := by
  have E := Lib.hid h
  have cL := Lib.hid fun (w' : World) (h' : EltsO w' w'.heap.size A n l) => copiedList_any A n cap l w' h' hzc hn
  clear h hzc
  obtain ⟨st, sh, sd, sp, ⟨⟨eu, es, eh, ea⟩, en⟩, ⟨⟨fu, fs, fh, fa⟩, fn⟩⟩ := s
  have HV : Hid (SeatV.val ⟨st, sh, sd, sp, ⟨⟨eu, es, eh, ea⟩, en⟩, ⟨⟨fu, fs, fh, fa⟩, fn⟩⟩ A n cap = .agg #[.int .i64 st, .int .i64 sh, .int .i64 sd, .int .i64 sp, .int .i64 eu, .int .i64 es, .int .i64 eh, .int .i64 ea, .int .i64 en, .int .i64 fu, .int .i64 fs, .int .i64 fh, .int .i64 fa, .int .i64 fn, .slice A n cap]) := rfl
  rw [HV.out]
  clear HV
  obtain ⟨W0, hW0⟩ : ∃ W, (w.alloc (.cells #[.int .i64 st, .int .i64 sh, .int .i64 sd, .int .i64 sp, .int .i64 eu, .int .i64 es, .int .i64 eh, .int .i64 ea, .int .i64 en, .int .i64 fu, .int .i64 fs, .int .i64 fh, .int .i64 fa, .int .i64 fn, .slice A n cap] 30)).alloc (.cells #[.int .i64 0, .int .i64 0, .int .i64 0, .int .i64 0, .int .i64 0, .int .i64 0, .int .i64 0, .int .i64 0, .int .i64 0, .int .i64 0, .int .i64 0, .int .i64 0, .int .i64 0, .int .i64 0, .slice none 0 0] 30) = W := ⟨_, rfl⟩
  have K0 : Hid (Below w.heap.size w W0) := by rw [← hW0]; exact ((Below.refl _ w).alloc (Nat.le_refl _) _).alloc (by simp; try omega) _
  have Y0 : Hid (W0.heap[w.heap.size]? = some (.cells #[.int .i64 st, .int .i64 sh, .int .i64 sd, .int .i64 sp, .int .i64 eu, .int .i64 es, .int .i64 eh, .int .i64 ea, .int .i64 en, .int .i64 fu, .int .i64 fs, .int .i64 fh, .int .i64 fa, .int .i64 fn, .slice A n cap] 30)) := by rw [← hW0]; exact heap2a w _ _
  have R0 : Hid (W0.heap[w.heap.size + 1]? = some (.cells #[.int .i64 0, .int .i64 0, .int .i64 0, .int .i64 0, .int .i64 0, .int .i64 0, .int .i64 0, .int .i64 0, .int .i64 0, .int .i64 0, .int .i64 0, .int .i64 0, .int .i64 0, .int .i64 0, .slice none 0 0] 30)) := by rw [← hW0]; exact heap2b w _ _
  have zW0 : W0.heap.size = w.heap.size + 2 := by rw [← hW0]; simp
  go_enter Tryz.func27, Tryz.ntmps27
  obtain ⟨⟨a0, a1, a2, a3, a4, a5, a6, a7, a8, a9, a10, a11, a12, a13, a14⟩, _⟩ := blk15 Y0.out
  go_wp2_with fail
  clear a0 a1 a2 a3 a4 a5 a6 a7 a8 a9 a10 a11 a12 a13 a14
  clear hW0
  refine (cL.out _ (E.out.oncopy K0.out K0.out.size)).mono ?_
  rintro e w1 ⟨g, cb, rfl, hM, hb⟩
  have M0 := Lib.hid (hM.mono K0.out.size)
  have hgb := hM.base
  have hsw := hb.size
  clear hM
  have Y1 := Lib.hid (blk_on hb Y0.out)
  have R1 := Lib.hid (blk_on hb R0.out)
  have K1 := Lib.hid (K0.out.trans (hb.mono K0.out.size))
  clear hb Y0 R0 K0
  obtain ⟨⟨b0, b1, b2, b3, b4, b5, b6, b7, b8, b9, b10, b11, b12, b13, b14⟩, bz0, bz1, bz2, bz3, bz4, bz5, bz6, bz7, bz8, bz9, bz10, bz11, bz12, bz13, bz14⟩ := blk15 Y1.out
  obtain ⟨S2, qS2⟩ : ∃ W, setAll w1 w.heap.size 14 [.slice (some ⟨g, 0, none⟩) n cb] = W := ⟨_, rfl⟩
  have hS2 : (w1.setCell ⟨w.heap.size, 14, none⟩ (.slice (some ⟨g, 0, none⟩) n cb)) = S2 := qS2
  have Y2 : Hid (S2.heap[w.heap.size]? = some (.cells #[.int .i64 st, .int .i64 sh, .int .i64 sd, .int .i64 sp, .int .i64 eu, .int .i64 es, .int .i64 eh, .int .i64 ea, .int .i64 en, .int .i64 fu, .int .i64 fs, .int .i64 fh, .int .i64 fa, .int .i64 fn, .slice (some ⟨g, 0, none⟩) n cb] 30)) := by
    rw [← qS2]
    refine (setAll_blk (w := w1) (g := w.heap.size) [.slice (some ⟨g, 0, none⟩) n cb] 14 Y1.out).trans ?_
    refine congrArg (fun z => some (Obj.cells z 30 (0, 0))) (Array.toList_inj.1 ?_)
    rw [overA_toList _ _ _ (by simp)]
    rfl
  have R2 : Hid (S2.heap[w.heap.size + 1]? = some (.cells #[.int .i64 0, .int .i64 0, .int .i64 0, .int .i64 0, .int .i64 0, .int .i64 0, .int .i64 0, .int .i64 0, .int .i64 0, .int .i64 0, .int .i64 0, .int .i64 0, .int .i64 0, .int .i64 0, .slice none 0 0] 30)) := by rw [← qS2]; exact setAll_away (by omega) _ _ R1.out
  have K2 : Hid (Below w.heap.size w S2) := by rw [← qS2]; exact setAll_below (g := w.heap.size) (by omega) [.slice (some ⟨g, 0, none⟩) n cb] 14 K1.out
  have zS2 : w1.heap.size = S2.heap.size := by rw [← qS2]; exact (setAll_size [.slice (some ⟨g, 0, none⟩) n cb] 14 _).symm
  clear qS2 Y1 R1 K1
  have MF : Hid (MadeE S2 w.heap.size 49 l g cb) := by
    rw [← hS2]
    exact M0.out.heap (setAll_off (g := w.heap.size) (by omega) [.slice (some ⟨g, 0, none⟩) n cb] 14)
  go_upto_region 2 with fail
  try rw [hS2]
  clear b0 b1 b2 b3 b4 b5 b6 b7 b8 b9 b10 b11 b12 b13 b14 bz0 bz1 bz2 bz3 bz4 bz5 bz6 bz7 bz8 bz9 bz10 bz11 bz12 bz13 bz14
  clear hS2
  go_wp2_with (first | (refine wpList_load_row rfl 30 _ rfl (w.heap.size) rfl 30 _ (0, 0) _ Y2.out Tryz.underlying30 rfl (by kernel_rfl) ?_) | (refine wpList_store_row rfl 30 _ _ rfl (w.heap.size + 1) #[.int .i64 st, .int .i64 sh, .int .i64 sd, .int .i64 sp, .int .i64 eu, .int .i64 es, .int .i64 eh, .int .i64 ea, .int .i64 en, .int .i64 fu, .int .i64 fs, .int .i64 fh, .int .i64 fa, .int .i64 fn, .slice (some ⟨g, 0, none⟩) n cb] rfl rfl 30 _ R2.out (by kernel_rfl) rfl (by simp [Value.oneCell']) ?_))
  exact row_ret (r := w.heap.size + 1) (cs := #[.int .i64 st, .int .i64 sh, .int .i64 sd, .int .i64 sp, .int .i64 eu, .int .i64 es, .int .i64 eh, .int .i64 ea, .int .i64 en, .int .i64 fu, .int .i64 fs, .int .i64 fh, .int .i64 fa, .int .i64 fn, .slice (some ⟨g, 0, none⟩) n cb]) rfl rfl (setRow_heap _ _ _ _ _ _ R2.out) Tryz.underlying30 rfl (by kernel_rfl) rfl ⟨g, cb, rfl, MF.out.heap (setRow_other _ _ _ _ (by omega)), below_setRow K2.out (by omega) _⟩

set_option maxRecDepth 100000 in
set_option maxHeartbeats 16000000 in
theorem takenIn_e (r : RowV) (s : SeatV) (A : Option Addr) (n cap : Nat) (b : BoxV) (w : World) : Calls Tryz.prog 115 #[r.val, s.val A n cap, b.val] w fun e w' => e = .returned (.tuple #[(({ s with e := takeR r b } : SeatV)).val A n cap, .string (takeT r b), .bool (takeB r b)]) ∧ Below w.heap.size w w' := by
  have cT' := fun w' => Take_impl r b w'
  obtain ⟨⟨⟨qu, qs, qh, qa⟩, qn⟩, hq⟩ : ∃ x, takeR r b = x := ⟨_, rfl⟩
  rw [hq] at cT' ⊢
  clear hq
  generalize takeT r b = tt at cT' ⊢
  generalize takeB r b = tb at cT' ⊢
  obtain ⟨⟨ru, rs, rh, ra⟩, rn⟩ := r
  obtain ⟨⟨xu, xs, xh, xa⟩, xn, xt, xp⟩ := b
  obtain ⟨st, sh, sd, sp, ⟨⟨eu, es, eh, ea⟩, en⟩, ⟨⟨fu, fs, fh, fa⟩, fn⟩⟩ := s
  have HV : Hid (SeatV.val ⟨st, sh, sd, sp, ⟨⟨eu, es, eh, ea⟩, en⟩, ⟨⟨fu, fs, fh, fa⟩, fn⟩⟩ A n cap = .agg #[.int .i64 st, .int .i64 sh, .int .i64 sd, .int .i64 sp, .int .i64 eu, .int .i64 es, .int .i64 eh, .int .i64 ea, .int .i64 en, .int .i64 fu, .int .i64 fs, .int .i64 fh, .int .i64 fa, .int .i64 fn, .slice A n cap]) := rfl
  rw [HV.out]
  have cT : Hid (∀ w' : World, Calls Tryz.prog 116 #[.agg #[.int .i64 ru, .int .i64 rs, .int .i64 rh, .int .i64 ra, .int .i64 rn], .agg #[.int .i64 xu, .int .i64 xs, .int .i64 xh, .int .i64 xa, .int .i64 xn, .string xt, .bool xp]] w' fun e w'' => e = .returned (.tuple #[.agg #[.int .i64 qu, .int .i64 qs, .int .i64 qh, .int .i64 qa, .int .i64 qn], .string tt, .bool tb]) ∧ Below w'.heap.size w' w'') := fun w' => cT' w'
  have HR : Hid (RowV.val ⟨⟨ru, rs, rh, ra⟩, rn⟩ = .agg #[.int .i64 ru, .int .i64 rs, .int .i64 rh, .int .i64 ra, .int .i64 rn]) := rfl
  have HX : Hid (BoxV.val ⟨⟨xu, xs, xh, xa⟩, xn, xt, xp⟩ = .agg #[.int .i64 xu, .int .i64 xs, .int .i64 xh, .int .i64 xa, .int .i64 xn, .string xt, .bool xp]) := rfl
  rw [HR.out, HX.out]
  clear cT' HR HX HV
  have HN : Hid ((({ (⟨st, sh, sd, sp, ⟨⟨eu, es, eh, ea⟩, en⟩, ⟨⟨fu, fs, fh, fa⟩, fn⟩⟩ : SeatV) with e := ⟨⟨qu, qs, qh, qa⟩, qn⟩ } : SeatV)).val A n cap = .agg #[.int .i64 st, .int .i64 sh, .int .i64 sd, .int .i64 sp, .int .i64 qu, .int .i64 qs, .int .i64 qh, .int .i64 qa, .int .i64 qn, .int .i64 fu, .int .i64 fs, .int .i64 fh, .int .i64 fa, .int .i64 fn, .slice A n cap]) := rfl
  rw [HN.out]
  clear HN
  obtain ⟨W0, hW0⟩ : ∃ W, (((w.alloc (.cells #[.int .i64 ru, .int .i64 rs, .int .i64 rh, .int .i64 ra, .int .i64 rn] 85)).alloc (.cells #[.int .i64 st, .int .i64 sh, .int .i64 sd, .int .i64 sp, .int .i64 eu, .int .i64 es, .int .i64 eh, .int .i64 ea, .int .i64 en, .int .i64 fu, .int .i64 fs, .int .i64 fh, .int .i64 fa, .int .i64 fn, .slice A n cap] 30)).alloc (.cells #[.int .i64 xu, .int .i64 xs, .int .i64 xh, .int .i64 xa, .int .i64 xn, .string xt, .bool xp] 32)).alloc (.cells #[.int .i64 0, .int .i64 0, .int .i64 0, .int .i64 0, .int .i64 0, .int .i64 0, .int .i64 0, .int .i64 0, .int .i64 0, .int .i64 0, .int .i64 0, .int .i64 0, .int .i64 0, .int .i64 0, .slice none 0 0] 30) = W := ⟨_, rfl⟩
  have K0 : Hid (Below w.heap.size w W0) := by rw [← hW0]; exact ((((Below.refl _ w).alloc (Nat.le_refl _) _).alloc (by simp; try omega) _).alloc (by simp; try omega) _).alloc (by simp; try omega) _
  have Q0 : Hid (W0.heap[w.heap.size]? = some (.cells #[.int .i64 ru, .int .i64 rs, .int .i64 rh, .int .i64 ra, .int .i64 rn] 85)) := by rw [← hW0]; exact alloc_blk (alloc_blk (heap2a w _ _))
  have Y0 : Hid (W0.heap[w.heap.size + 1]? = some (.cells #[.int .i64 st, .int .i64 sh, .int .i64 sd, .int .i64 sp, .int .i64 eu, .int .i64 es, .int .i64 eh, .int .i64 ea, .int .i64 en, .int .i64 fu, .int .i64 fs, .int .i64 fh, .int .i64 fa, .int .i64 fn, .slice A n cap] 30)) := by rw [← hW0]; exact alloc_blk (alloc_blk (heap2b w _ _))
  have B0 : Hid (W0.heap[w.heap.size + 1 + 1]? = some (.cells #[.int .i64 xu, .int .i64 xs, .int .i64 xh, .int .i64 xa, .int .i64 xn, .string xt, .bool xp] 32)) := by rw [← hW0]; exact alloc_blk (heap3c w _ _ _)
  have R0 : Hid (W0.heap[w.heap.size + 1 + 1 + 1]? = some (.cells #[.int .i64 0, .int .i64 0, .int .i64 0, .int .i64 0, .int .i64 0, .int .i64 0, .int .i64 0, .int .i64 0, .int .i64 0, .int .i64 0, .int .i64 0, .int .i64 0, .int .i64 0, .int .i64 0, .slice none 0 0] 30)) := by
    rw [← hW0]
    have h1 := heap1 (((w.alloc (.cells #[.int .i64 ru, .int .i64 rs, .int .i64 rh, .int .i64 ra, .int .i64 rn] 85)).alloc (.cells #[.int .i64 st, .int .i64 sh, .int .i64 sd, .int .i64 sp, .int .i64 eu, .int .i64 es, .int .i64 eh, .int .i64 ea, .int .i64 en, .int .i64 fu, .int .i64 fs, .int .i64 fh, .int .i64 fa, .int .i64 fn, .slice A n cap] 30)).alloc (.cells #[.int .i64 xu, .int .i64 xs, .int .i64 xh, .int .i64 xa, .int .i64 xn, .string xt, .bool xp] 32)) (.cells #[.int .i64 0, .int .i64 0, .int .i64 0, .int .i64 0, .int .i64 0, .int .i64 0, .int .i64 0, .int .i64 0, .int .i64 0, .int .i64 0, .int .i64 0, .int .i64 0, .int .i64 0, .int .i64 0, .slice none 0 0] 30)
    have hs : (((w.alloc (.cells #[.int .i64 ru, .int .i64 rs, .int .i64 rh, .int .i64 ra, .int .i64 rn] 85)).alloc (.cells #[.int .i64 st, .int .i64 sh, .int .i64 sd, .int .i64 sp, .int .i64 eu, .int .i64 es, .int .i64 eh, .int .i64 ea, .int .i64 en, .int .i64 fu, .int .i64 fs, .int .i64 fh, .int .i64 fa, .int .i64 fn, .slice A n cap] 30)).alloc (.cells #[.int .i64 xu, .int .i64 xs, .int .i64 xh, .int .i64 xa, .int .i64 xn, .string xt, .bool xp] 32)).heap.size = w.heap.size + 1 + 1 + 1 := by simp
    rw [hs] at h1
    exact h1
  go_enter Tryz.func115, Tryz.ntmps115
  obtain ⟨⟨r0, r1, r2, r3, r4⟩, _⟩ := blk5 Q0.out
  obtain ⟨⟨x0, x1, x2, x3, x4, x5, x6⟩, _⟩ := blk7 B0.out

  go_wp2_with fail
  clear r0 r1 r2 r3 r4 x0 x1 x2 x3 x4 x5 x6
  clear hW0
  refine (cT.out _).mono ?_
  rintro e w1 ⟨rfl, hb⟩
  have Q1 := Lib.hid (blk_on hb Q0.out)
  have Y1 := Lib.hid (blk_on hb Y0.out)
  have B1 := Lib.hid (blk_on hb B0.out)
  have R1 := Lib.hid (blk_on hb R0.out)
  have K1 := Lib.hid (K0.out.trans (hb.mono K0.out.size))
  clear hb Q0 Y0 B0 R0 K0
  obtain ⟨V2, hV2⟩ : ∃ V, w1.alloc (.cells #[.int .i64 qu, .int .i64 qs, .int .i64 qh, .int .i64 qa, .int .i64 qn] 27) = V := ⟨_, rfl⟩
  have ltV2Q : w.heap.size < w1.heap.size := blk_in Q1.out
  have ltV2Y : w.heap.size + 1 < w1.heap.size := blk_in Y1.out
  have ltV2B : w.heap.size + 1 + 1 < w1.heap.size := blk_in B1.out
  have ltV2R : w.heap.size + 1 + 1 + 1 < w1.heap.size := blk_in R1.out
  have Q2 : Hid (V2.heap[w.heap.size]? = some (.cells #[.int .i64 ru, .int .i64 rs, .int .i64 rh, .int .i64 ra, .int .i64 rn] 85)) := by rw [← hV2]; exact alloc_blk Q1.out
  have Y2 : Hid (V2.heap[w.heap.size + 1]? = some (.cells #[.int .i64 st, .int .i64 sh, .int .i64 sd, .int .i64 sp, .int .i64 eu, .int .i64 es, .int .i64 eh, .int .i64 ea, .int .i64 en, .int .i64 fu, .int .i64 fs, .int .i64 fh, .int .i64 fa, .int .i64 fn, .slice A n cap] 30)) := by rw [← hV2]; exact alloc_blk Y1.out
  have B2 : Hid (V2.heap[w.heap.size + 1 + 1]? = some (.cells #[.int .i64 xu, .int .i64 xs, .int .i64 xh, .int .i64 xa, .int .i64 xn, .string xt, .bool xp] 32)) := by rw [← hV2]; exact alloc_blk B1.out
  have R2 : Hid (V2.heap[w.heap.size + 1 + 1 + 1]? = some (.cells #[.int .i64 0, .int .i64 0, .int .i64 0, .int .i64 0, .int .i64 0, .int .i64 0, .int .i64 0, .int .i64 0, .int .i64 0, .int .i64 0, .int .i64 0, .int .i64 0, .int .i64 0, .int .i64 0, .slice none 0 0] 30)) := by rw [← hV2]; exact alloc_blk R1.out
  have hb : Below w1.heap.size w1 V2 := by rw [← hV2]; exact (Below.refl _ w1).alloc (Nat.le_refl _) _
  have K2 := Lib.hid (K1.out.trans (hb.mono K1.out.size))
  have T2 : Hid (V2.heap[w1.heap.size]? = some (.cells #[.int .i64 qu, .int .i64 qs, .int .i64 qh, .int .i64 qa, .int .i64 qn] 27)) := by rw [← hV2]; exact heap1 w1 _
  have lbV2 : w.heap.size ≤ w1.heap.size := K1.out.size
  clear hb Q1 Y1 B1 R1 K1
  -- the row is laid, and read again
  obtain ⟨⟨c0, c1, c2, c3, c4⟩, _⟩ := blk5 T2.out
  obtain ⟨⟨d0, d1, d2, d3, d4, d5, d6, d7, d8, d9, d10, d11, d12, d13, d14⟩, dz0, dz1, dz2, dz3, dz4, dz5, dz6, dz7, dz8, dz9, dz10, dz11, dz12, dz13, dz14⟩ := blk15 Y2.out
  obtain ⟨S3, qS3⟩ : ∃ W, setAll V2 (w.heap.size + 1) 4 [.int .i64 qu, .int .i64 qs, .int .i64 qh, .int .i64 qa, .int .i64 qn] = W := ⟨_, rfl⟩
  have hS3 : (((((V2.setCell ⟨w.heap.size + 1, 4, none⟩ (.int .i64 qu)).setCell ⟨w.heap.size + 1, 5, none⟩ (.int .i64 qs)).setCell ⟨w.heap.size + 1, 6, none⟩ (.int .i64 qh)).setCell ⟨w.heap.size + 1, 7, none⟩ (.int .i64 qa)).setCell ⟨w.heap.size + 1, 8, none⟩ (.int .i64 qn)) = S3 := qS3
  have Q3 : Hid (S3.heap[w.heap.size]? = some (.cells #[.int .i64 ru, .int .i64 rs, .int .i64 rh, .int .i64 ra, .int .i64 rn] 85)) := by rw [← qS3]; exact setAll_away (by omega) _ _ Q2.out
  have Y3 : Hid (S3.heap[w.heap.size + 1]? = some (.cells #[.int .i64 st, .int .i64 sh, .int .i64 sd, .int .i64 sp, .int .i64 qu, .int .i64 qs, .int .i64 qh, .int .i64 qa, .int .i64 qn, .int .i64 fu, .int .i64 fs, .int .i64 fh, .int .i64 fa, .int .i64 fn, .slice A n cap] 30)) := by
    rw [← qS3]
    refine (setAll_blk (w := V2) (g := (w.heap.size + 1)) [.int .i64 qu, .int .i64 qs, .int .i64 qh, .int .i64 qa, .int .i64 qn] 4 Y2.out).trans ?_
    refine congrArg (fun z => some (Obj.cells z 30 (0, 0))) (Array.toList_inj.1 ?_)
    rw [overA_toList _ _ _ (by simp)]
    rfl
  have B3 : Hid (S3.heap[w.heap.size + 1 + 1]? = some (.cells #[.int .i64 xu, .int .i64 xs, .int .i64 xh, .int .i64 xa, .int .i64 xn, .string xt, .bool xp] 32)) := by rw [← qS3]; exact setAll_away (by omega) _ _ B2.out
  have R3 : Hid (S3.heap[w.heap.size + 1 + 1 + 1]? = some (.cells #[.int .i64 0, .int .i64 0, .int .i64 0, .int .i64 0, .int .i64 0, .int .i64 0, .int .i64 0, .int .i64 0, .int .i64 0, .int .i64 0, .int .i64 0, .int .i64 0, .int .i64 0, .int .i64 0, .slice none 0 0] 30)) := by rw [← qS3]; exact setAll_away (by omega) _ _ R2.out
  have T3 : Hid (S3.heap[w1.heap.size]? = some (.cells #[.int .i64 qu, .int .i64 qs, .int .i64 qh, .int .i64 qa, .int .i64 qn] 27)) := by rw [← qS3]; exact setAll_away (by omega) _ _ T2.out
  have K3 : Hid (Below w.heap.size w S3) := by rw [← qS3]; exact setAll_below (g := (w.heap.size + 1)) (by omega) [.int .i64 qu, .int .i64 qs, .int .i64 qh, .int .i64 qa, .int .i64 qn] 4 K2.out
  have zS3 : V2.heap.size = S3.heap.size := by rw [← qS3]; exact (setAll_size [.int .i64 qu, .int .i64 qs, .int .i64 qh, .int .i64 qa, .int .i64 qn] 4 _).symm
  clear qS3 Q2 Y2 B2 R2 T2 K2
  go_upto_region 3 with fail
  try rw [hS3]
  clear c0 c1 c2 c3 c4
  clear d0 d1 d2 d3 d4 d5 d6 d7 d8 d9 d10 d11 d12 d13 d14 dz0 dz1 dz2 dz3 dz4 dz5 dz6 dz7 dz8 dz9 dz10 dz11 dz12 dz13 dz14
  clear hS3 hV2
  go_wp2_with (first | (refine wpList_load_row rfl 30 _ rfl (w.heap.size + 1) rfl 30 _ (0, 0) _ Y3.out Tryz.underlying30 rfl (by kernel_rfl) ?_) | (refine wpList_store_row rfl 30 _ _ rfl (w.heap.size + 1 + 1 + 1) #[.int .i64 st, .int .i64 sh, .int .i64 sd, .int .i64 sp, .int .i64 qu, .int .i64 qs, .int .i64 qh, .int .i64 qa, .int .i64 qn, .int .i64 fu, .int .i64 fs, .int .i64 fh, .int .i64 fa, .int .i64 fn, .slice A n cap] rfl rfl 30 _ R3.out (by kernel_rfl) rfl (by simp [Value.oneCell']) ?_))
  exact row_ret3 (r := w.heap.size + 1 + 1 + 1) (cs := #[.int .i64 st, .int .i64 sh, .int .i64 sd, .int .i64 sp, .int .i64 qu, .int .i64 qs, .int .i64 qh, .int .i64 qa, .int .i64 qn, .int .i64 fu, .int .i64 fs, .int .i64 fh, .int .i64 fa, .int .i64 fn, .slice A n cap]) rfl rfl rfl rfl (setRow_heap _ _ _ _ _ _ R3.out) Tryz.underlying30 rfl (by kernel_rfl) rfl ⟨rfl, below_setRow K3.out (by omega) _⟩

set_option maxRecDepth 100000 in
set_option maxHeartbeats 16000000 in
theorem takenIn_f (r : RowV) (s : SeatV) (A : Option Addr) (n cap : Nat) (b : BoxV) (w : World) : Calls Tryz.prog 121 #[r.val, s.val A n cap, b.val] w fun e w' => e = .returned (.tuple #[(({ s with f := takeR r b } : SeatV)).val A n cap, .string (takeT r b), .bool (takeB r b)]) ∧ Below w.heap.size w w' := by
  have cT' := fun w' => Take_impl r b w'
  obtain ⟨⟨⟨qu, qs, qh, qa⟩, qn⟩, hq⟩ : ∃ x, takeR r b = x := ⟨_, rfl⟩
  rw [hq] at cT' ⊢
  clear hq
  generalize takeT r b = tt at cT' ⊢
  generalize takeB r b = tb at cT' ⊢
  obtain ⟨⟨ru, rs, rh, ra⟩, rn⟩ := r
  obtain ⟨⟨xu, xs, xh, xa⟩, xn, xt, xp⟩ := b
  obtain ⟨st, sh, sd, sp, ⟨⟨eu, es, eh, ea⟩, en⟩, ⟨⟨fu, fs, fh, fa⟩, fn⟩⟩ := s
  have HV : Hid (SeatV.val ⟨st, sh, sd, sp, ⟨⟨eu, es, eh, ea⟩, en⟩, ⟨⟨fu, fs, fh, fa⟩, fn⟩⟩ A n cap = .agg #[.int .i64 st, .int .i64 sh, .int .i64 sd, .int .i64 sp, .int .i64 eu, .int .i64 es, .int .i64 eh, .int .i64 ea, .int .i64 en, .int .i64 fu, .int .i64 fs, .int .i64 fh, .int .i64 fa, .int .i64 fn, .slice A n cap]) := rfl
  rw [HV.out]
  have cT : Hid (∀ w' : World, Calls Tryz.prog 116 #[.agg #[.int .i64 ru, .int .i64 rs, .int .i64 rh, .int .i64 ra, .int .i64 rn], .agg #[.int .i64 xu, .int .i64 xs, .int .i64 xh, .int .i64 xa, .int .i64 xn, .string xt, .bool xp]] w' fun e w'' => e = .returned (.tuple #[.agg #[.int .i64 qu, .int .i64 qs, .int .i64 qh, .int .i64 qa, .int .i64 qn], .string tt, .bool tb]) ∧ Below w'.heap.size w' w'') := fun w' => cT' w'
  have HR : Hid (RowV.val ⟨⟨ru, rs, rh, ra⟩, rn⟩ = .agg #[.int .i64 ru, .int .i64 rs, .int .i64 rh, .int .i64 ra, .int .i64 rn]) := rfl
  have HX : Hid (BoxV.val ⟨⟨xu, xs, xh, xa⟩, xn, xt, xp⟩ = .agg #[.int .i64 xu, .int .i64 xs, .int .i64 xh, .int .i64 xa, .int .i64 xn, .string xt, .bool xp]) := rfl
  rw [HR.out, HX.out]
  clear cT' HR HX HV
  have HN : Hid ((({ (⟨st, sh, sd, sp, ⟨⟨eu, es, eh, ea⟩, en⟩, ⟨⟨fu, fs, fh, fa⟩, fn⟩⟩ : SeatV) with f := ⟨⟨qu, qs, qh, qa⟩, qn⟩ } : SeatV)).val A n cap = .agg #[.int .i64 st, .int .i64 sh, .int .i64 sd, .int .i64 sp, .int .i64 eu, .int .i64 es, .int .i64 eh, .int .i64 ea, .int .i64 en, .int .i64 qu, .int .i64 qs, .int .i64 qh, .int .i64 qa, .int .i64 qn, .slice A n cap]) := rfl
  rw [HN.out]
  clear HN
  obtain ⟨W0, hW0⟩ : ∃ W, (((w.alloc (.cells #[.int .i64 ru, .int .i64 rs, .int .i64 rh, .int .i64 ra, .int .i64 rn] 86)).alloc (.cells #[.int .i64 st, .int .i64 sh, .int .i64 sd, .int .i64 sp, .int .i64 eu, .int .i64 es, .int .i64 eh, .int .i64 ea, .int .i64 en, .int .i64 fu, .int .i64 fs, .int .i64 fh, .int .i64 fa, .int .i64 fn, .slice A n cap] 30)).alloc (.cells #[.int .i64 xu, .int .i64 xs, .int .i64 xh, .int .i64 xa, .int .i64 xn, .string xt, .bool xp] 32)).alloc (.cells #[.int .i64 0, .int .i64 0, .int .i64 0, .int .i64 0, .int .i64 0, .int .i64 0, .int .i64 0, .int .i64 0, .int .i64 0, .int .i64 0, .int .i64 0, .int .i64 0, .int .i64 0, .int .i64 0, .slice none 0 0] 30) = W := ⟨_, rfl⟩
  have K0 : Hid (Below w.heap.size w W0) := by rw [← hW0]; exact ((((Below.refl _ w).alloc (Nat.le_refl _) _).alloc (by simp; try omega) _).alloc (by simp; try omega) _).alloc (by simp; try omega) _
  have Q0 : Hid (W0.heap[w.heap.size]? = some (.cells #[.int .i64 ru, .int .i64 rs, .int .i64 rh, .int .i64 ra, .int .i64 rn] 86)) := by rw [← hW0]; exact alloc_blk (alloc_blk (heap2a w _ _))
  have Y0 : Hid (W0.heap[w.heap.size + 1]? = some (.cells #[.int .i64 st, .int .i64 sh, .int .i64 sd, .int .i64 sp, .int .i64 eu, .int .i64 es, .int .i64 eh, .int .i64 ea, .int .i64 en, .int .i64 fu, .int .i64 fs, .int .i64 fh, .int .i64 fa, .int .i64 fn, .slice A n cap] 30)) := by rw [← hW0]; exact alloc_blk (alloc_blk (heap2b w _ _))
  have B0 : Hid (W0.heap[w.heap.size + 1 + 1]? = some (.cells #[.int .i64 xu, .int .i64 xs, .int .i64 xh, .int .i64 xa, .int .i64 xn, .string xt, .bool xp] 32)) := by rw [← hW0]; exact alloc_blk (heap3c w _ _ _)
  have R0 : Hid (W0.heap[w.heap.size + 1 + 1 + 1]? = some (.cells #[.int .i64 0, .int .i64 0, .int .i64 0, .int .i64 0, .int .i64 0, .int .i64 0, .int .i64 0, .int .i64 0, .int .i64 0, .int .i64 0, .int .i64 0, .int .i64 0, .int .i64 0, .int .i64 0, .slice none 0 0] 30)) := by
    rw [← hW0]
    have h1 := heap1 (((w.alloc (.cells #[.int .i64 ru, .int .i64 rs, .int .i64 rh, .int .i64 ra, .int .i64 rn] 86)).alloc (.cells #[.int .i64 st, .int .i64 sh, .int .i64 sd, .int .i64 sp, .int .i64 eu, .int .i64 es, .int .i64 eh, .int .i64 ea, .int .i64 en, .int .i64 fu, .int .i64 fs, .int .i64 fh, .int .i64 fa, .int .i64 fn, .slice A n cap] 30)).alloc (.cells #[.int .i64 xu, .int .i64 xs, .int .i64 xh, .int .i64 xa, .int .i64 xn, .string xt, .bool xp] 32)) (.cells #[.int .i64 0, .int .i64 0, .int .i64 0, .int .i64 0, .int .i64 0, .int .i64 0, .int .i64 0, .int .i64 0, .int .i64 0, .int .i64 0, .int .i64 0, .int .i64 0, .int .i64 0, .int .i64 0, .slice none 0 0] 30)
    have hs : (((w.alloc (.cells #[.int .i64 ru, .int .i64 rs, .int .i64 rh, .int .i64 ra, .int .i64 rn] 86)).alloc (.cells #[.int .i64 st, .int .i64 sh, .int .i64 sd, .int .i64 sp, .int .i64 eu, .int .i64 es, .int .i64 eh, .int .i64 ea, .int .i64 en, .int .i64 fu, .int .i64 fs, .int .i64 fh, .int .i64 fa, .int .i64 fn, .slice A n cap] 30)).alloc (.cells #[.int .i64 xu, .int .i64 xs, .int .i64 xh, .int .i64 xa, .int .i64 xn, .string xt, .bool xp] 32)).heap.size = w.heap.size + 1 + 1 + 1 := by simp
    rw [hs] at h1
    exact h1
  go_enter Tryz.func121, Tryz.ntmps121
  obtain ⟨⟨r0, r1, r2, r3, r4⟩, _⟩ := blk5 Q0.out
  obtain ⟨⟨x0, x1, x2, x3, x4, x5, x6⟩, _⟩ := blk7 B0.out

  go_wp2_with fail
  clear r0 r1 r2 r3 r4 x0 x1 x2 x3 x4 x5 x6
  clear hW0
  refine (cT.out _).mono ?_
  rintro e w1 ⟨rfl, hb⟩
  have Q1 := Lib.hid (blk_on hb Q0.out)
  have Y1 := Lib.hid (blk_on hb Y0.out)
  have B1 := Lib.hid (blk_on hb B0.out)
  have R1 := Lib.hid (blk_on hb R0.out)
  have K1 := Lib.hid (K0.out.trans (hb.mono K0.out.size))
  clear hb Q0 Y0 B0 R0 K0
  obtain ⟨V2, hV2⟩ : ∃ V, w1.alloc (.cells #[.int .i64 qu, .int .i64 qs, .int .i64 qh, .int .i64 qa, .int .i64 qn] 27) = V := ⟨_, rfl⟩
  have ltV2Q : w.heap.size < w1.heap.size := blk_in Q1.out
  have ltV2Y : w.heap.size + 1 < w1.heap.size := blk_in Y1.out
  have ltV2B : w.heap.size + 1 + 1 < w1.heap.size := blk_in B1.out
  have ltV2R : w.heap.size + 1 + 1 + 1 < w1.heap.size := blk_in R1.out
  have Q2 : Hid (V2.heap[w.heap.size]? = some (.cells #[.int .i64 ru, .int .i64 rs, .int .i64 rh, .int .i64 ra, .int .i64 rn] 86)) := by rw [← hV2]; exact alloc_blk Q1.out
  have Y2 : Hid (V2.heap[w.heap.size + 1]? = some (.cells #[.int .i64 st, .int .i64 sh, .int .i64 sd, .int .i64 sp, .int .i64 eu, .int .i64 es, .int .i64 eh, .int .i64 ea, .int .i64 en, .int .i64 fu, .int .i64 fs, .int .i64 fh, .int .i64 fa, .int .i64 fn, .slice A n cap] 30)) := by rw [← hV2]; exact alloc_blk Y1.out
  have B2 : Hid (V2.heap[w.heap.size + 1 + 1]? = some (.cells #[.int .i64 xu, .int .i64 xs, .int .i64 xh, .int .i64 xa, .int .i64 xn, .string xt, .bool xp] 32)) := by rw [← hV2]; exact alloc_blk B1.out
  have R2 : Hid (V2.heap[w.heap.size + 1 + 1 + 1]? = some (.cells #[.int .i64 0, .int .i64 0, .int .i64 0, .int .i64 0, .int .i64 0, .int .i64 0, .int .i64 0, .int .i64 0, .int .i64 0, .int .i64 0, .int .i64 0, .int .i64 0, .int .i64 0, .int .i64 0, .slice none 0 0] 30)) := by rw [← hV2]; exact alloc_blk R1.out
  have hb : Below w1.heap.size w1 V2 := by rw [← hV2]; exact (Below.refl _ w1).alloc (Nat.le_refl _) _
  have K2 := Lib.hid (K1.out.trans (hb.mono K1.out.size))
  have T2 : Hid (V2.heap[w1.heap.size]? = some (.cells #[.int .i64 qu, .int .i64 qs, .int .i64 qh, .int .i64 qa, .int .i64 qn] 27)) := by rw [← hV2]; exact heap1 w1 _
  have lbV2 : w.heap.size ≤ w1.heap.size := K1.out.size
  clear hb Q1 Y1 B1 R1 K1
  -- the row is laid, and read again
  obtain ⟨⟨c0, c1, c2, c3, c4⟩, _⟩ := blk5 T2.out
  obtain ⟨⟨d0, d1, d2, d3, d4, d5, d6, d7, d8, d9, d10, d11, d12, d13, d14⟩, dz0, dz1, dz2, dz3, dz4, dz5, dz6, dz7, dz8, dz9, dz10, dz11, dz12, dz13, dz14⟩ := blk15 Y2.out
  obtain ⟨S3, qS3⟩ : ∃ W, setAll V2 (w.heap.size + 1) 9 [.int .i64 qu, .int .i64 qs, .int .i64 qh, .int .i64 qa, .int .i64 qn] = W := ⟨_, rfl⟩
  have hS3 : (((((V2.setCell ⟨w.heap.size + 1, 9, none⟩ (.int .i64 qu)).setCell ⟨w.heap.size + 1, 10, none⟩ (.int .i64 qs)).setCell ⟨w.heap.size + 1, 11, none⟩ (.int .i64 qh)).setCell ⟨w.heap.size + 1, 12, none⟩ (.int .i64 qa)).setCell ⟨w.heap.size + 1, 13, none⟩ (.int .i64 qn)) = S3 := qS3
  have Q3 : Hid (S3.heap[w.heap.size]? = some (.cells #[.int .i64 ru, .int .i64 rs, .int .i64 rh, .int .i64 ra, .int .i64 rn] 86)) := by rw [← qS3]; exact setAll_away (by omega) _ _ Q2.out
  have Y3 : Hid (S3.heap[w.heap.size + 1]? = some (.cells #[.int .i64 st, .int .i64 sh, .int .i64 sd, .int .i64 sp, .int .i64 eu, .int .i64 es, .int .i64 eh, .int .i64 ea, .int .i64 en, .int .i64 qu, .int .i64 qs, .int .i64 qh, .int .i64 qa, .int .i64 qn, .slice A n cap] 30)) := by
    rw [← qS3]
    refine (setAll_blk (w := V2) (g := (w.heap.size + 1)) [.int .i64 qu, .int .i64 qs, .int .i64 qh, .int .i64 qa, .int .i64 qn] 9 Y2.out).trans ?_
    refine congrArg (fun z => some (Obj.cells z 30 (0, 0))) (Array.toList_inj.1 ?_)
    rw [overA_toList _ _ _ (by simp)]
    rfl
  have B3 : Hid (S3.heap[w.heap.size + 1 + 1]? = some (.cells #[.int .i64 xu, .int .i64 xs, .int .i64 xh, .int .i64 xa, .int .i64 xn, .string xt, .bool xp] 32)) := by rw [← qS3]; exact setAll_away (by omega) _ _ B2.out
  have R3 : Hid (S3.heap[w.heap.size + 1 + 1 + 1]? = some (.cells #[.int .i64 0, .int .i64 0, .int .i64 0, .int .i64 0, .int .i64 0, .int .i64 0, .int .i64 0, .int .i64 0, .int .i64 0, .int .i64 0, .int .i64 0, .int .i64 0, .int .i64 0, .int .i64 0, .slice none 0 0] 30)) := by rw [← qS3]; exact setAll_away (by omega) _ _ R2.out
  have T3 : Hid (S3.heap[w1.heap.size]? = some (.cells #[.int .i64 qu, .int .i64 qs, .int .i64 qh, .int .i64 qa, .int .i64 qn] 27)) := by rw [← qS3]; exact setAll_away (by omega) _ _ T2.out
  have K3 : Hid (Below w.heap.size w S3) := by rw [← qS3]; exact setAll_below (g := (w.heap.size + 1)) (by omega) [.int .i64 qu, .int .i64 qs, .int .i64 qh, .int .i64 qa, .int .i64 qn] 9 K2.out
  have zS3 : V2.heap.size = S3.heap.size := by rw [← qS3]; exact (setAll_size [.int .i64 qu, .int .i64 qs, .int .i64 qh, .int .i64 qa, .int .i64 qn] 9 _).symm
  clear qS3 Q2 Y2 B2 R2 T2 K2
  go_upto_region 3 with fail
  try rw [hS3]
  clear c0 c1 c2 c3 c4
  clear d0 d1 d2 d3 d4 d5 d6 d7 d8 d9 d10 d11 d12 d13 d14 dz0 dz1 dz2 dz3 dz4 dz5 dz6 dz7 dz8 dz9 dz10 dz11 dz12 dz13 dz14
  clear hS3 hV2
  go_wp2_with (first | (refine wpList_load_row rfl 30 _ rfl (w.heap.size + 1) rfl 30 _ (0, 0) _ Y3.out Tryz.underlying30 rfl (by kernel_rfl) ?_) | (refine wpList_store_row rfl 30 _ _ rfl (w.heap.size + 1 + 1 + 1) #[.int .i64 st, .int .i64 sh, .int .i64 sd, .int .i64 sp, .int .i64 eu, .int .i64 es, .int .i64 eh, .int .i64 ea, .int .i64 en, .int .i64 qu, .int .i64 qs, .int .i64 qh, .int .i64 qa, .int .i64 qn, .slice A n cap] rfl rfl 30 _ R3.out (by kernel_rfl) rfl (by simp [Value.oneCell']) ?_))
  exact row_ret3 (r := w.heap.size + 1 + 1 + 1) (cs := #[.int .i64 st, .int .i64 sh, .int .i64 sd, .int .i64 sp, .int .i64 eu, .int .i64 es, .int .i64 eh, .int .i64 ea, .int .i64 en, .int .i64 qu, .int .i64 qs, .int .i64 qh, .int .i64 qa, .int .i64 qn, .slice A n cap]) rfl rfl rfl rfl (setRow_heap _ _ _ _ _ _ R3.out) Tryz.underlying30 rfl (by kernel_rfl) rfl ⟨rfl, below_setRow K3.out (by omega) _⟩

set_option maxRecDepth 100000 in
set_option maxHeartbeats 16000000 in
theorem rows_any (s : SeatV) (A : Option Addr) (n cap : Nat) (w : World) : Calls Tryz.prog 25 #[s.val A n cap] w fun e w' => ∃ g, e = .returned (.slice (some ⟨g, 0, none⟩) 2 2) ∧ w.heap.size ≤ g ∧ w'.heap[g]? = some (.cells #[.iface 85 s.e.val, .iface 86 s.f.val] 61) ∧ Below w.heap.size w w' := by
  obtain ⟨st, sh, sd, sp, ⟨⟨eu, es, eh, ea⟩, en⟩, ⟨⟨fu, fs, fh, fa⟩, fn⟩⟩ := s
  have HV : Hid (SeatV.val ⟨st, sh, sd, sp, ⟨⟨eu, es, eh, ea⟩, en⟩, ⟨⟨fu, fs, fh, fa⟩, fn⟩⟩ A n cap = .agg #[.int .i64 st, .int .i64 sh, .int .i64 sd, .int .i64 sp, .int .i64 eu, .int .i64 es, .int .i64 eh, .int .i64 ea, .int .i64 en, .int .i64 fu, .int .i64 fs, .int .i64 fh, .int .i64 fa, .int .i64 fn, .slice A n cap]) := rfl
  rw [HV.out]
  dsimp only
  have HE : Hid (RowV.val ⟨⟨eu, es, eh, ea⟩, en⟩ = .agg #[.int .i64 eu, .int .i64 es, .int .i64 eh, .int .i64 ea, .int .i64 en]) := rfl
  have HF : Hid (RowV.val ⟨⟨fu, fs, fh, fa⟩, fn⟩ = .agg #[.int .i64 fu, .int .i64 fs, .int .i64 fh, .int .i64 fa, .int .i64 fn]) := rfl
  rw [HE.out, HF.out]
  clear HV HE HF
  obtain ⟨W0, hW0⟩ : ∃ W, w.alloc (.cells #[.int .i64 st, .int .i64 sh, .int .i64 sd, .int .i64 sp, .int .i64 eu, .int .i64 es, .int .i64 eh, .int .i64 ea, .int .i64 en, .int .i64 fu, .int .i64 fs, .int .i64 fh, .int .i64 fa, .int .i64 fn, .slice A n cap] 30) = W := ⟨_, rfl⟩
  have K0 : Hid (Below w.heap.size w W0) := by rw [← hW0]; exact (Below.refl _ w).alloc (Nat.le_refl _) _
  have S0 : Hid (W0.heap[w.heap.size]? = some (.cells #[.int .i64 st, .int .i64 sh, .int .i64 sd, .int .i64 sp, .int .i64 eu, .int .i64 es, .int .i64 eh, .int .i64 ea, .int .i64 en, .int .i64 fu, .int .i64 fs, .int .i64 fh, .int .i64 fa, .int .i64 fn, .slice A n cap] 30)) := by rw [← hW0]; exact heap1 w _
  go_enter Tryz.func25, Tryz.ntmps25
  obtain ⟨⟨a0, a1, a2, a3, a4, a5, a6, a7, a8, a9, a10, a11, a12, a13, a14⟩, _⟩ := blk15 S0.out
  go_wp2_with fail
  go_ret
  exact ⟨_, rfl, K0.out.size, heap1 _ _, K0.out.alloc K0.out.size _⟩

end Go.Proofs.YtchdmmlkgglmcaaGreatDoor.Tx
namespace Go.Proofs.YtchdmmlkgglmcaaGreatDoor.Tx
open Go.RowKit

/-- What one row alone would make of a box. -/
def codeE (s : SeatV) (n : Nat) (b : BoxV) : Int := if takeB s.e b then (if n = 60 then 0 else 1) else 0
def codeF (s : SeatV) (n : Nat) (b : BoxV) : Int := if takeB s.f b then (if s.st = 1 then (if isEnd (takeT s.f b) n then 2 else 0) else if n = 60 then 0 else 3) else 0
theorem take_zero (b : BoxV) : takeB .zero b = false := by
  have h : goesB .zero = false := by simp [goesB, RowV.zero, KeyV.same_self]
  rw [takeB, h]; simp
theorem took_key {r : RowV} {b : BoxV} (h : takeB r b = true) : b.k = r.k ∧ r.k.same .zero = false := by
  simp only [takeB, Bool.and_eq_true] at h
  refine ⟨(open_true h.2.1).1, ?_⟩
  have h1 := h.2.2
  simp only [goesB, Bool.and_eq_true, Bool.not_eq_true'] at h1
  exact h1.1
/-- A right seat's rows: which can take a box. -/
theorem seat_rows {s : SeatV} {n : Nat} (h : seatOkB s n = true) : (s.st = 1 ∨ s.st = 2) ∧ n ≤ 60 ∧ (s.st ≠ 1 → s.e = .zero) ∧ (∀ b, takeB s.e b = true → takeB s.f b = false) := by
  have h0 := h
  rw [seat_prog] at h
  simp only [Bool.and_eq_true, Bool.or_eq_true, beq_iff_eq, decide_eq_true_eq] at h
  obtain ⟨a, h1, h2, _, h4, h5, h6⟩ := h
  have hz : s.st ≠ 1 → s.e = .zero := fun hn => by
    rw [erlB, bne_int hn] at h5
    have h7 : s.e.isZ = true := by simpa using h5
    exact isZ_iff h7
  refine ⟨a, h6, hz, fun b hb => ?_⟩
  rw [Bool.eq_false_iff]
  intro hf
  obtain ⟨e1, e2⟩ := took_key hb
  obtain ⟨f1, f2⟩ := took_key hf
  have he : s.st = 1 ∧ s.p = 3 := by
    by_cases hc : s.st = 1 ∧ s.p = 3
    · exact hc
    · have hq : (s.st == 1 && s.p == 3) = false := by
        rw [Bool.eq_false_iff]
        intro hq
        simp only [Bool.and_eq_true, beq_iff_eq] at hq
        exact hc hq
      rw [erlB, hq] at h5
      have h7 : s.e.isZ = true := by simpa using h5
      rw [isZ_iff h7, take_zero] at hb
      cases hb
  rw [erlB, beq_int he.1, beq_int he.2] at h5
  simp only [Bool.and_true, if_true, Bool.and_eq_true] at h5
  have k1 := KeyV.same_iff.1 h5.2
  simp only [fthB, Bool.and_eq_true] at h4
  have k2 := KeyV.same_iff.1 h4.2
  have u1 : s.e.k.u = 1 := by
    cases hb1 : keyOkB ⟨1, s.f.k.s, s.h, 0⟩ with
    | true => rw [k1, earlyK, rightK_yes hb1]
    | false =>
      rw [earlyK, rightK_no hb1] at k1
      rw [k1, KeyV.same_self] at e2
      cases e2
  have u2 : s.f.k.u = 4 := by
    cases hb1 : keyOkB ⟨4, s.f.k.s, s.h, s.d⟩ with
    | true =>
      rw [forthK, rightK_yes hb1] at k2
      rw [k2]
    | false =>
      rw [forthK, rightK_no hb1] at k2
      rw [k2, KeyV.same_self] at f2
      cases f2
  rw [e1] at f1
  rw [f1, u2] at u1
  cases u1
/-- What a right seat hears: as its rows say, one behind the other. -/
theorem hear_first {s : SeatV} {n : Nat} {b : BoxV} {l : List WordV} (hl : l.length = n) (h : seatOkB s n = true) (hc : codeE s n b ≠ 0) : hearC s n b = codeE s n b ∧ hearS s n b = { s with e := takeR s.e b } ∧ hearL s l b = l ++ [⟨takeT s.e b, true⟩] := by
  obtain ⟨ha, h6, hz, hx⟩ := seat_rows h
  have ht : takeB s.e b = true := by
    cases ht : takeB s.e b with
    | true => rfl
    | false => rw [codeE, ht] at hc; exact absurd rfl hc
  rw [codeE, if_pos ht] at hc
  have hn : n ≠ 60 := fun e => by rw [if_pos e] at hc; exact hc rfl
  have hs : s.st = 1 := by
    rcases ha with e | e
    · exact e
    · rw [hz (by omega), take_zero] at ht; cases ht
  have h1 : hearC s n b = 1 := by rw [hearC, if_pos h, if_pos hs, if_pos ht, if_pos (by omega)]
  refine ⟨by rw [h1, codeE, if_pos ht, if_neg hn], by rw [hearS, if_pos h, if_pos h1], ?_⟩
  rw [hearL, hl, if_pos h, if_pos h1]
theorem hear_next {s : SeatV} {n : Nat} {b : BoxV} {l : List WordV} (hl : l.length = n) (h : seatOkB s n = true) (hf : codeF s n b ≠ 0) :
    hearC s n b = codeF s n b ∧ ((codeF s n b = 2 ∧ hearS s n b = { s with st := 2, e := .zero, f := takeR s.f b } ∧ hearL s l b = l) ∨ (codeF s n b = 3 ∧ hearS s n b = { s with f := takeR s.f b } ∧ hearL s l b = l ++ [⟨takeT s.f b, false⟩])) := by
  obtain ⟨ha, h6, hz, hx⟩ := seat_rows h
  have ht : takeB s.f b = true := by
    cases ht : takeB s.f b with
    | true => rfl
    | false => rw [codeF, ht] at hf; exact absurd rfl hf
  have he : takeB s.e b = false := by
    cases he : takeB s.e b with
    | false => rfl
    | true => rw [hx b he] at ht; cases ht
  rw [codeF, if_pos ht] at hf ⊢
  by_cases hs : s.st = 1
  · rw [if_pos hs] at hf ⊢
    cases hi : isEnd (takeT s.f b) n with
    | false => rw [hi] at hf; exact absurd rfl hf
    | true =>
      have h1 : hearC s n b = 2 := by rw [hearC, if_pos h, if_pos hs, he, ht, hi]; rfl
      have n1 : ¬ hearC s n b = 1 := by omega
      refine ⟨h1, .inl ⟨rfl, by rw [hearS, if_pos h, if_neg n1, if_pos h1], ?_⟩⟩
      rw [hearL, hl, if_pos h, if_neg n1, if_neg (by omega)]
  · rw [if_neg hs] at hf ⊢
    have hn : n ≠ 60 := fun e => by rw [if_pos e] at hf; exact hf rfl
    rw [if_neg hn]
    have h1 : hearC s n b = 3 := by rw [hearC, if_pos h, if_neg hs, ht, decide_eq_true (show n < 60 by omega)]; rfl
    have n1 : ¬ hearC s n b = 1 := by omega
    have n2 : ¬ hearC s n b = 2 := by omega
    refine ⟨h1, .inr ⟨rfl, by rw [hearS, if_pos h, if_neg n1, if_neg n2, if_pos h1], ?_⟩⟩
    rw [hearL, hl, if_pos h, if_neg n1, if_pos h1]
theorem hear_none {s : SeatV} {n : Nat} {b : BoxV} {l : List WordV} (hl : l.length = n) (h : seatOkB s n = true) (hc : codeE s n b = 0) (hf : codeF s n b = 0) : hearC s n b = 0 ∧ hearS s n b = s ∧ hearL s l b = l := by
  obtain ⟨ha, h6, hz, hx⟩ := seat_rows h
  have h1 : hearC s n b = 0 := by
    rw [hearC, if_pos h]
    by_cases hs : s.st = 1
    · rw [if_pos hs]
      cases he : takeB s.e b with
      | true =>
        rw [codeE, if_pos he] at hc
        have hn : n = 60 := by
          by_cases e : n = 60
          · exact e
          · rw [if_neg e] at hc; cases hc
        rw [if_pos rfl, if_neg (by omega)]
      | false =>
        cases ht : takeB s.f b with
        | false => rfl
        | true =>
          rw [codeF, if_pos ht, if_pos hs] at hf
          cases hi : isEnd (takeT s.f b) n with
          | false => rfl
          | true => rw [hi] at hf; cases hf
    · rw [if_neg hs]
      cases ht : takeB s.f b with
      | false => rfl
      | true =>
        rw [codeF, if_pos ht, if_neg hs] at hf
        have hn : n = 60 := by
          by_cases e : n = 60
          · exact e
          · rw [if_neg e] at hf; cases hf
        subst hn
        rfl
  refine ⟨h1, ?_, ?_⟩
  · rw [hearS, if_pos h, h1]; rfl
  · rw [hearL, hl, if_pos h, h1]; rfl

set_option maxRecDepth 100000 in
set_option maxHeartbeats 16000000 in
theorem hearing_e (s : SeatV) (A : Option Addr) (n cap : Nat) (l : List WordV) (b : BoxV) (w : World) (h : EltsO w w.heap.size A n l) (hzc : A = none → cap = 0) (hn : n ≤ 1048576) :
    Calls Tryz.prog 26 #[s.val A n cap, .iface 85 s.e.val, b.val] w fun e w' => ∃ (q : SeatV) (A' : Option Addr) (n' c' : Nat), e = .returned (.tuple #[q.val A' n' c', .int .i64 (codeE s n b)]) ∧ (codeE s n b ≠ 0 → q = { s with e := takeR s.e b } ∧ LogOut w' w.heap.size A' n' c' (l ++ [⟨takeT s.e b, true⟩])) ∧ Below w.heap.size w w' := by
  obtain ⟨i0, by0, hi, hz0, hz1, hz2, hby⟩ := infoWordE
  have E := Lib.hid h
  have hln : l.length = n := h.1
  have cC' := fun (w' : World) (h' : EltsO w' w'.heap.size A n l) => copied_any s A n cap l w' h' hzc hn
  have cT' := fun (g cb : Nat) (w' : World) => takenIn_e s.e s (some ⟨g, 0, none⟩) n cb b w'
  have cA' := fun (w' : World) => heardAs_e s A n cap s.e (takeT s.e b) hn w'
  clear h hzc
  obtain ⟨ya, hya⟩ : ∃ ya, (if n = 60 then (0 : Int) else 1) = ya := ⟨_, rfl⟩
  obtain ⟨y, hy⟩ : ∃ y, codeE s n b = y := ⟨_, rfl⟩
  have hy2 : (if takeB s.e b then (if n = 60 then (0 : Int) else 1) else 0) = y := hy
  rw [hya] at hy2 cA'
  rw [hy]
  have HY := Lib.hid hy2
  have HYA := Lib.hid hya
  clear hy hy2 hya
  obtain ⟨⟨⟨qu, qs, qh, qa⟩, qn⟩, hq⟩ : ∃ x, takeR s.e b = x := ⟨_, rfl⟩
  rw [hq] at cT' ⊢
  clear hq
  generalize takeT s.e b = tt at cT' cA' ⊢
  generalize takeB s.e b = tb at cT' HY
  obtain ⟨⟨xu, xs, xh, xa⟩, xn, xt, xp⟩ := b
  obtain ⟨st, sh, sd, sp, ⟨⟨eu, es, eh, ea⟩, en⟩, ⟨⟨fu, fs, fh, fa⟩, fn⟩⟩ := s
  have HV : Hid (SeatV.val ⟨st, sh, sd, sp, ⟨⟨eu, es, eh, ea⟩, en⟩, ⟨⟨fu, fs, fh, fa⟩, fn⟩⟩ A n cap = .agg #[.int .i64 st, .int .i64 sh, .int .i64 sd, .int .i64 sp, .int .i64 eu, .int .i64 es, .int .i64 eh, .int .i64 ea, .int .i64 en, .int .i64 fu, .int .i64 fs, .int .i64 fh, .int .i64 fa, .int .i64 fn, .slice A n cap]) := rfl
  have HVG := fun (g cb : Nat) => Lib.hid (show SeatV.val ⟨st, sh, sd, sp, ⟨⟨eu, es, eh, ea⟩, en⟩, ⟨⟨fu, fs, fh, fa⟩, fn⟩⟩ (some ⟨g, 0, none⟩) n cb = .agg #[.int .i64 st, .int .i64 sh, .int .i64 sd, .int .i64 sp, .int .i64 eu, .int .i64 es, .int .i64 eh, .int .i64 ea, .int .i64 en, .int .i64 fu, .int .i64 fs, .int .i64 fh, .int .i64 fa, .int .i64 fn, .slice (some ⟨g, 0, none⟩) n cb] from rfl)
  have HX : Hid (BoxV.val ⟨⟨xu, xs, xh, xa⟩, xn, xt, xp⟩ = .agg #[.int .i64 xu, .int .i64 xs, .int .i64 xh, .int .i64 xa, .int .i64 xn, .string xt, .bool xp]) := rfl
  have HR : Hid (RowV.val ⟨⟨eu, es, eh, ea⟩, en⟩ = .agg #[.int .i64 eu, .int .i64 es, .int .i64 eh, .int .i64 ea, .int .i64 en]) := rfl
  dsimp only at cT' cA' HY HYA ⊢
  rw [HV.out, HR.out, HX.out]
  have cC : Hid (∀ w' : World, EltsO w' w'.heap.size A n l → Calls Tryz.prog 27 #[.agg #[.int .i64 st, .int .i64 sh, .int .i64 sd, .int .i64 sp, .int .i64 eu, .int .i64 es, .int .i64 eh, .int .i64 ea, .int .i64 en, .int .i64 fu, .int .i64 fs, .int .i64 fh, .int .i64 fa, .int .i64 fn, .slice A n cap]] w' fun e w'' => ∃ g cb, e = .returned (.agg #[.int .i64 st, .int .i64 sh, .int .i64 sd, .int .i64 sp, .int .i64 eu, .int .i64 es, .int .i64 eh, .int .i64 ea, .int .i64 en, .int .i64 fu, .int .i64 fs, .int .i64 fh, .int .i64 fa, .int .i64 fn, .slice (some ⟨g, 0, none⟩) n cb]) ∧ MadeE w'' w'.heap.size 49 l g cb ∧ Below w'.heap.size w' w'') := cC'
  have cT : Hid (∀ (g cb : Nat) (w' : World), Calls Tryz.prog 115 #[.agg #[.int .i64 eu, .int .i64 es, .int .i64 eh, .int .i64 ea, .int .i64 en], .agg #[.int .i64 st, .int .i64 sh, .int .i64 sd, .int .i64 sp, .int .i64 eu, .int .i64 es, .int .i64 eh, .int .i64 ea, .int .i64 en, .int .i64 fu, .int .i64 fs, .int .i64 fh, .int .i64 fa, .int .i64 fn, .slice (some ⟨g, 0, none⟩) n cb], .agg #[.int .i64 xu, .int .i64 xs, .int .i64 xh, .int .i64 xa, .int .i64 xn, .string xt, .bool xp]] w' fun e w'' => e = .returned (.tuple #[.agg #[.int .i64 st, .int .i64 sh, .int .i64 sd, .int .i64 sp, .int .i64 qu, .int .i64 qs, .int .i64 qh, .int .i64 qa, .int .i64 qn, .int .i64 fu, .int .i64 fs, .int .i64 fh, .int .i64 fa, .int .i64 fn, .slice (some ⟨g, 0, none⟩) n cb], .string tt, .bool tb]) ∧ Below w'.heap.size w' w'') := cT'
  have cA : Hid (∀ w' : World, Calls Tryz.prog 54 #[.agg #[.int .i64 st, .int .i64 sh, .int .i64 sd, .int .i64 sp, .int .i64 eu, .int .i64 es, .int .i64 eh, .int .i64 ea, .int .i64 en, .int .i64 fu, .int .i64 fs, .int .i64 fh, .int .i64 fa, .int .i64 fn, .slice A n cap], .iface 85 (.agg #[.int .i64 eu, .int .i64 es, .int .i64 eh, .int .i64 ea, .int .i64 en]), .string tt] w' fun e w'' => e = .returned (.int .i64 ya) ∧ Below w'.heap.size w' w'') := cA'
  clear cC' cT' cA' HV HX HR HVG
  obtain ⟨W0, hW0⟩ : ∃ W, ((w.alloc (.cells #[.int .i64 st, .int .i64 sh, .int .i64 sd, .int .i64 sp, .int .i64 eu, .int .i64 es, .int .i64 eh, .int .i64 ea, .int .i64 en, .int .i64 fu, .int .i64 fs, .int .i64 fh, .int .i64 fa, .int .i64 fn, .slice A n cap] 30)).alloc (.cells #[.int .i64 xu, .int .i64 xs, .int .i64 xh, .int .i64 xa, .int .i64 xn, .string xt, .bool xp] 32)).alloc (.cells #[.int .i64 0, .int .i64 0, .int .i64 0, .int .i64 0, .int .i64 0, .int .i64 0, .int .i64 0, .int .i64 0, .int .i64 0, .int .i64 0, .int .i64 0, .int .i64 0, .int .i64 0, .int .i64 0, .slice none 0 0] 30) = W := ⟨_, rfl⟩
  have K0 : Hid (Below w.heap.size w W0) := by rw [← hW0]; exact (((Below.refl _ w).alloc (Nat.le_refl _) _).alloc (by simp; try omega) _).alloc (by simp; try omega) _
  have Y0 : Hid (W0.heap[w.heap.size]? = some (.cells #[.int .i64 st, .int .i64 sh, .int .i64 sd, .int .i64 sp, .int .i64 eu, .int .i64 es, .int .i64 eh, .int .i64 ea, .int .i64 en, .int .i64 fu, .int .i64 fs, .int .i64 fh, .int .i64 fa, .int .i64 fn, .slice A n cap] 30)) := by rw [← hW0]; exact heap3a w _ _ _
  have X0 : Hid (W0.heap[w.heap.size + 1]? = some (.cells #[.int .i64 xu, .int .i64 xs, .int .i64 xh, .int .i64 xa, .int .i64 xn, .string xt, .bool xp] 32)) := by rw [← hW0]; exact heap3b w _ _ _
  have R0 : Hid (W0.heap[w.heap.size + 1 + 1]? = some (.cells #[.int .i64 0, .int .i64 0, .int .i64 0, .int .i64 0, .int .i64 0, .int .i64 0, .int .i64 0, .int .i64 0, .int .i64 0, .int .i64 0, .int .i64 0, .int .i64 0, .int .i64 0, .int .i64 0, .slice none 0 0] 30)) := by rw [← hW0]; exact heap3c w _ _ _
  have zW0 : W0.heap.size = w.heap.size + 3 := by rw [← hW0]; simp
  go_enter Tryz.func26, Tryz.ntmps26
  go_wp2
  clear hW0
  have hmf : ∀ (fn : Fn) (first cap : Array Value) (w : World), (Instr.makeFunc fn first cap).run Tryz.prog w = .ok (.func fn first cap) w := fun _ _ _ _ => rfl
  refine wp_region_ownp (W := W0) [] (fun _ => True) stays_true trivial [0, 0, 1, 0, 0, 5, 0, 1, 0, 0, 0, 0, 2, 3, 0, 0] [0, 4, 5, 1, 2, 3, 6, 7, 8, 9, 10, 11, 12, 13, 14, 15] (by kernel_rfl) (by kernel_rfl) (by kernel_rfl) ?_
  simp only [List.map_cons, List.map_nil, List.filterMap_cons, List.filterMap_nil, List.getD_cons_zero, List.getD_cons_succ, List.getElem?_cons_zero, List.getElem?_cons_succ]
  have rY : Hid (∀ q : In (plainEnv W0 []), q.w.heap[w.heap.size]? = some (.cells #[.int .i64 st, .int .i64 sh, .int .i64 sd, .int .i64 sp, .int .i64 eu, .int .i64 es, .int .i64 eh, .int .i64 ea, .int .i64 en, .int .i64 fu, .int .i64 fs, .int .i64 fh, .int .i64 fa, .int .i64 fn, .slice A n cap] 30)) := fun q => q.block Y0.out (by simp)
  have rX : Hid (∀ q : In (plainEnv W0 []), q.w.heap[w.heap.size + 1]? = some (.cells #[.int .i64 xu, .int .i64 xs, .int .i64 xh, .int .i64 xa, .int .i64 xn, .string xt, .bool xp] 32)) := fun q => q.block X0.out (by simp)
  refine wpO_quiet 2 rfl (by kernel_rfl) ?_
  simp only [List.take, List.drop]
  repeat (go_big_quiet_step (fail))
  refine wpQuiet_nil ?_
  refine wpO_read5 (.func (.method "loop.example/g00558/impl.takenIn") #[.iface 85 (.agg #[.int .i64 eu, .int .i64 es, .int .i64 eh, .int .i64 ea, .int .i64 en])] #[]) rfl stays_true (fun w' hC hF => by first | kernel_rfl | simp [go_sem]) ?_
  simp only [Act.put, List.setIfInBounds_toArray, List.set_cons_succ, List.set_cons_zero]
  refine wpO_load_row rfl 30 _ rfl (w.heap.size) rfl 30 _ (0, 0) _ rY.out Tryz.underlying30 rfl (by kernel_rfl) ?_
  simp only [Act.put, List.setIfInBounds_toArray, List.set_cons_succ, List.set_cons_zero]
  refine wpO_callx (f := 27) (args := #[.agg #[.int .i64 st, .int .i64 sh, .int .i64 sd, .int .i64 sp, .int .i64 eu, .int .i64 es, .int .i64 eh, .int .i64 ea, .int .i64 en, .int .i64 fu, .int .i64 fs, .int .i64 fh, .int .i64 fa, .int .i64 fn, .slice A n cap]]) (α := Nat × Nat) (fun z => .agg #[.int .i64 st, .int .i64 sh, .int .i64 sd, .int .i64 sp, .int .i64 eu, .int .i64 es, .int .i64 eh, .int .i64 ea, .int .i64 en, .int .i64 fu, .int .i64 fs, .int .i64 fh, .int .i64 fa, .int .i64 fn, .slice (some ⟨z.1, 0, none⟩) n z.2]) (fun z => [z.1]) (fun z w' => MadeE w' W0.heap.size 49 l z.1 z.2) rfl (fun w' => by simp [go_sem]) (fun z w1 w2 hw h b => h.below b) (fun G => ?_) (fun w' hw hF => ?_) (fun z hz => ?_)
  · obtain ⟨g, hg, hn'⟩ := fresh_above W0.heap.size G
    exact ⟨(g, 0), fun k hk => by simp at hk; subst hk; exact ⟨hg, hn'⟩⟩
  · exact (cC.out w' ((E.out.below (K0.out.trans ((kept_below hw).mono K0.out.size))).mono (Nat.le_trans K0.out.size (kept_below hw).size))).mono fun e w'' ⟨g, cb, he, m1, b1⟩ => ⟨(g, cb), he, m1.mono (kept_below hw).size, b1, fun k hk => by simp at hk; subst hk; exact m1.base⟩
  obtain ⟨g, cb⟩ := z
  have hgl : W0.heap.size ≤ g := (hz g (by simp)).1
  dsimp only
  simp only [Act.put, List.setIfInBounds_toArray, List.set_cons_succ, List.set_cons_zero]
  refine wpO_load_row rfl 32 _ rfl (w.heap.size + 1) rfl 32 _ (0, 0) _ rX.out Tryz.underlying32 rfl (by kernel_rfl) ?_
  simp only [Act.put, List.setIfInBounds_toArray, List.set_cons_succ, List.set_cons_zero]
  refine wpO_quiet 1 rfl (by kernel_rfl) ?_
  simp only [List.take, List.drop]
  repeat (go_big_quiet_step (fail))
  refine wpQuiet_nil ?_
  refine wpO_call (f := 115) (args := #[.agg #[.int .i64 eu, .int .i64 es, .int .i64 eh, .int .i64 ea, .int .i64 en], .agg #[.int .i64 st, .int .i64 sh, .int .i64 sd, .int .i64 sp, .int .i64 eu, .int .i64 es, .int .i64 eh, .int .i64 ea, .int .i64 en, .int .i64 fu, .int .i64 fs, .int .i64 fh, .int .i64 fa, .int .i64 fn, .slice (some ⟨g, 0, none⟩) n cb], .agg #[.int .i64 xu, .int .i64 xs, .int .i64 xh, .int .i64 xa, .int .i64 xn, .string xt, .bool xp]]) (.tuple #[.agg #[.int .i64 st, .int .i64 sh, .int .i64 sd, .int .i64 sp, .int .i64 qu, .int .i64 qs, .int .i64 qh, .int .i64 qa, .int .i64 qn, .int .i64 fu, .int .i64 fs, .int .i64 fh, .int .i64 fa, .int .i64 fn, .slice (some ⟨g, 0, none⟩) n cb], .string tt, .bool tb]) rfl (fun w' => by kernel_rfl) (fun w' hC _ => cT.out g cb w') ?_
  simp only [Act.put, List.setIfInBounds_toArray, List.set_cons_succ, List.set_cons_zero]
  refine wpO_quiet 4 rfl (by kernel_rfl) ?_
  simp only [List.take, List.drop]
  repeat (go_big_quiet_step (fail))
  refine wpQuiet_nil ?_
  refine wpO_alloc (.cells #[.int .i64 0, .int .i64 0, .int .i64 0, .int .i64 0, .int .i64 0, .int .i64 0, .int .i64 0, .int .i64 0, .int .i64 0, .int .i64 0, .int .i64 0, .int .i64 0, .int .i64 0, .int .i64 0, .slice none 0 0] 30) rfl (fun w' => by simp [go_sem]) fun gN mg hng => ?_
  have hgN : W0.heap.size ≤ gN := mg
  have hne : g ≠ gN := fun e => hng (by subst e; simp)
  simp only [Act.put, List.setIfInBounds_toArray, List.set_cons_succ, List.set_cons_zero]
  refine wpO_store (g := gN) (t := 30) (old := #[.int .i64 0, .int .i64 0, .int .i64 0, .int .i64 0, .int .i64 0, .int .i64 0, .int .i64 0, .int .i64 0, .int .i64 0, .int .i64 0, .int .i64 0, .int .i64 0, .int .i64 0, .int .i64 0, .slice none 0 0]) (fun w' => MadeE w' W0.heap.size 49 l g cb) #[.int .i64 st, .int .i64 sh, .int .i64 sd, .int .i64 sp, .int .i64 qu, .int .i64 qs, .int .i64 qh, .int .i64 qa, .int .i64 qn, .int .i64 fu, .int .i64 fs, .int .i64 fh, .int .i64 fa, .int .i64 fn, .slice (some ⟨g, 0, none⟩) n cb] rfl rfl rfl rfl (Env.own _ mg) (by kernel_rfl) rfl rfl (fun w' h => ⟨h.1.2, h.2⟩) (fun w1 w2 hw h b => h.below b) (fun w1 w2 hw h => h.heap (hw g h.base.2 hne)) ?_
  simp only [Act.put]
  refine wpO_quiet 2 rfl (by kernel_rfl) ?_
  simp only [List.take, List.drop]
  repeat (go_big_quiet_step (fail))
  refine wpQuiet_nil ?_
  refine wpO_nil ?_
  rintro w1 hb' ⟨hM, hG⟩
  have hb := kept_below hb'
  have ltN := blk_in hG
  have hgb := hM.base
  have Y1 := Lib.hid (blk_on hb Y0.out)
  have X1 := Lib.hid (blk_on hb X0.out)
  have R1 := Lib.hid (blk_on hb R0.out)
  have K1 := Lib.hid (K0.out.trans (hb.mono K0.out.size))
  clear hb hb' rY rX Y0 X0 R0 K0
  have N1 := Lib.hid hG
  have M0 : Hid (MadeE w1 w.heap.size 49 l g cb) := hM.mono (by omega)
  clear hG hM
  cases tb with
  | false =>
    have HE : Hid (y = 0) := by show _ = _; rw [← HY.out]; rfl
    go_wp2_with (refine wpList_store_row rfl 30 _ _ rfl (w.heap.size + 1 + 1) #[.int .i64 0, .int .i64 0, .int .i64 0, .int .i64 0, .int .i64 0, .int .i64 0, .int .i64 0, .int .i64 0, .int .i64 0, .int .i64 0, .int .i64 0, .int .i64 0, .int .i64 0, .int .i64 0, .slice none 0 0] rfl rfl 30 _ R1.out (by kernel_rfl) rfl (by simp [Value.oneCell']) ?_)
    exact row_ret2 (r := w.heap.size + 1 + 1) (cs := #[.int .i64 0, .int .i64 0, .int .i64 0, .int .i64 0, .int .i64 0, .int .i64 0, .int .i64 0, .int .i64 0, .int .i64 0, .int .i64 0, .int .i64 0, .int .i64 0, .int .i64 0, .int .i64 0, .slice none 0 0]) rfl rfl rfl (setRow_heap _ _ _ _ _ _ R1.out) Tryz.underlying30 rfl (by kernel_rfl) rfl ⟨.zero, none, 0, 0, by rw [HE.out]; rfl, by rw [HE.out]; exact (fun hc => absurd rfl hc), below_setRow K1.out (by omega) _⟩
  | true =>
    have HY2 : Hid (y = ya) := by show _ = _; rw [← HY.out, if_pos rfl]
    clear HY
    go_wp2_with (refine wpList_load_row rfl 30 _ rfl (w.heap.size) rfl 30 _ (0, 0) _ Y1.out Tryz.underlying30 rfl (by kernel_rfl) ?_)
    refine (cA.out _).mono ?_
    rintro e w2 ⟨rfl, hb⟩
    have M1 := Lib.hid (M0.out.below hb)
    clear M0
    have Y2 := Lib.hid (blk_on hb Y1.out)
    have X2 := Lib.hid (blk_on hb X1.out)
    have R2 := Lib.hid (blk_on hb R1.out)
    have N2 := Lib.hid (blk_on hb N1.out)
    have K2 := Lib.hid (K1.out.trans (hb.mono K1.out.size))
    clear hb Y1 X1 R1 N1 K1
    by_cases h60 : n = 60
    ·
      obtain rfl : ya = (0 : Int) := by rw [← HYA.out, if_pos h60]
      have HE := Lib.hid HY2.out
      clear HYA HY2 h60
      go_wp2_with (first | (refine wpList_load_row rfl 30 _ rfl (gN) rfl 30 _ (0, 0) _ N2.out Tryz.underlying30 rfl (by kernel_rfl) ?_) | (refine wpList_store_row rfl 30 _ _ rfl (w.heap.size + 1 + 1) #[.int .i64 st, .int .i64 sh, .int .i64 sd, .int .i64 sp, .int .i64 qu, .int .i64 qs, .int .i64 qh, .int .i64 qa, .int .i64 qn, .int .i64 fu, .int .i64 fs, .int .i64 fh, .int .i64 fa, .int .i64 fn, .slice (some ⟨g, 0, none⟩) n cb] rfl rfl 30 _ R2.out (by kernel_rfl) rfl (by simp [Value.oneCell']) ?_))
      exact row_ret2 (r := w.heap.size + 1 + 1) (cs := #[.int .i64 st, .int .i64 sh, .int .i64 sd, .int .i64 sp, .int .i64 qu, .int .i64 qs, .int .i64 qh, .int .i64 qa, .int .i64 qn, .int .i64 fu, .int .i64 fs, .int .i64 fh, .int .i64 fa, .int .i64 fn, .slice (some ⟨g, 0, none⟩) n cb]) rfl rfl rfl (setRow_heap _ _ _ _ _ _ R2.out) Tryz.underlying30 rfl (by kernel_rfl) rfl ⟨⟨st, sh, sd, sp, ⟨⟨qu, qs, qh, qa⟩, qn⟩, ⟨⟨fu, fs, fh, fa⟩, fn⟩⟩, some ⟨g, 0, none⟩, n, cb, by rw [HE.out]; rfl, by rw [HE.out]; exact (fun hc => absurd rfl hc), below_setRow K2.out (by omega) _⟩
    ·
      obtain rfl : ya = (1 : Int) := by rw [← HYA.out, if_neg h60]
      have HE := Lib.hid HY2.out
      clear HYA HY2 h60
      have e9 : (l ++ [(⟨tt, true⟩ : WordV)]).length = n + 1 := by rw [List.length_append, hln]; rfl
      have hbk := M1.out.base
      have hRw := blk_in R2.out
      have hKs := K2.out.size
      have hNw := blk_in N2.out
      obtain ⟨⟨a0, a1, a2, a3, a4, a5, a6, a7, a8, a9, a10, a11, a12, a13, a14⟩, _⟩ := blk15 N2.out
      go_upto_region 11 with (at_builtin; refine wpList_append_own _ rfl _ _ 28 rfl w.heap.size 49 i0 WordV.zero.val 2 by0 Tryz.underlying28 hi hz0 hz1 hz2 rfl (by decide) _ n (l.flatMap Cells.cells) rfl (by have h1 := M1.out.own; rw [hln] at h1; exact h1.alloc _) ⟨w2.heap.size, 0, none⟩ 1 1 ([(⟨tt, true⟩ : WordV)].flatMap Cells.cells) rfl rfl (cells_new w2 ([.string tt, .bool true]) _) flat_one (by unfold maxLen; omega) (Nat.le_trans (Nat.mul_le_mul (by omega : n + 1 ≤ 1048577) hby) (by decide)) (by simp; omega) ?_; intro v' w3 hown' hgrow hiff; have h9 := made_app (l := l) (l2 := [(⟨tt, true⟩ : WordV)]) (n := n) (m := 1) (gb := g) (cb := cb) hown' hln.symm rfl hiff; obtain ⟨gb', cb', rfl, hM'⟩ := h9; have HM' : Hid (MadeE w3 w.heap.size 49 (l ++ [(⟨tt, true⟩ : WordV)]) gb' cb') := hM'; have HGR := Lib.hid hgrow; clear hown' hgrow hM' hiff; have O9 : Hid (w3.heap[gN]? = some (.cells #[.int .i64 st, .int .i64 sh, .int .i64 sd, .int .i64 sp, .int .i64 qu, .int .i64 qs, .int .i64 qh, .int .i64 qa, .int .i64 qn, .int .i64 fu, .int .i64 fs, .int .i64 fh, .int .i64 fa, .int .i64 fn, .slice (some ⟨g, 0, none⟩) n cb] 30)) := blk_off HGR.out (alloc_blk N2.out) (show gN ≠ g by omega); obtain ⟨⟨b0, b1, b2, b3, b4, b5, b6, b7, b8, b9, b10, b11, b12, b13, b14⟩, bz0, bz1, bz2, bz3, bz4, bz5, bz6, bz7, bz8, bz9, bz10, bz11, bz12, bz13, bz14⟩ := blk15 O9.out; rw [e9])
      clear a0 a1 a2 a3 a4 a5 a6 a7 a8 a9 a10 a11 a12 a13 a14
      clear b0 b1 b2 b3 b4 b5 b6 b7 b8 b9 b10 b11 b12 b13 b14 bz0 bz1 bz2 bz3 bz4 bz5 bz6 bz7 bz8 bz9 bz10 bz11 bz12 bz13 bz14
      have R3 : Hid (w3.heap[w.heap.size + 1 + 1]? = some (.cells #[.int .i64 0, .int .i64 0, .int .i64 0, .int .i64 0, .int .i64 0, .int .i64 0, .int .i64 0, .int .i64 0, .int .i64 0, .int .i64 0, .int .i64 0, .int .i64 0, .int .i64 0, .int .i64 0, .slice none 0 0] 30)) := blk_off HGR.out (alloc_blk R2.out) (show w.heap.size + 1 + 1 ≠ g by omega)
      have K3 : Hid (Below w.heap.size w w3) := below_off (K2.out.alloc K2.out.size _) HGR.out ⟨show w.heap.size ≤ g by omega, by rw [World.size_alloc]; omega⟩
      have N3 := O9
      clear O9
      clear Y2 X2 R2 N2 K2 M1
      have hb9 := HM'.out.base
      have hnN := HM'.out.not_blk N3.out (by decide)
      have hnR := HM'.out.not_blk R3.out (by decide)
      obtain ⟨S3, qS3⟩ : ∃ W, setAll w3 gN 14 [.slice (some ⟨gb', 0, none⟩) (n + 1) cb'] = W := ⟨_, rfl⟩
      have hS3 : (w3.setCell ⟨gN, 14, none⟩ (.slice (some ⟨gb', 0, none⟩) (n + 1) cb')) = S3 := qS3
      have R4 : Hid (S3.heap[w.heap.size + 1 + 1]? = some (.cells #[.int .i64 0, .int .i64 0, .int .i64 0, .int .i64 0, .int .i64 0, .int .i64 0, .int .i64 0, .int .i64 0, .int .i64 0, .int .i64 0, .int .i64 0, .int .i64 0, .int .i64 0, .int .i64 0, .slice none 0 0] 30)) := by rw [← qS3]; exact setAll_away (by omega) _ _ R3.out
      have N4 : Hid (S3.heap[gN]? = some (.cells #[.int .i64 st, .int .i64 sh, .int .i64 sd, .int .i64 sp, .int .i64 qu, .int .i64 qs, .int .i64 qh, .int .i64 qa, .int .i64 qn, .int .i64 fu, .int .i64 fs, .int .i64 fh, .int .i64 fa, .int .i64 fn, .slice (some ⟨gb', 0, none⟩) (n + 1) cb'] 30)) := by
        rw [← qS3]
        refine (setAll_blk (w := w3) (g := gN) [.slice (some ⟨gb', 0, none⟩) (n + 1) cb'] 14 N3.out).trans ?_
        refine congrArg (fun z => some (Obj.cells z 30 (0, 0))) (Array.toList_inj.1 ?_)
        rw [overA_toList _ _ _ (by simp)]
        rfl
      have K4 : Hid (Below w.heap.size w S3) := by rw [← qS3]; exact setAll_below (g := gN) (by omega) [.slice (some ⟨gb', 0, none⟩) (n + 1) cb'] 14 K3.out
      have zS3 : w3.heap.size = S3.heap.size := by rw [← qS3]; exact (setAll_size [.slice (some ⟨gb', 0, none⟩) (n + 1) cb'] 14 _).symm
      clear qS3 R3 N3 K3
      have MF : Hid (MadeE S3 w.heap.size 49 (l ++ [(⟨tt, true⟩ : WordV)]) gb' cb') := by
        rw [← hS3]
        exact HM'.out.heap (setAll_off (g := gN) (by omega) [.slice (some ⟨gb', 0, none⟩) (n + 1) cb'] 14)
      try rw [hS3]
      clear hS3
      go_wp2_with (first | (refine wpList_load_row rfl 30 _ rfl (gN) rfl 30 _ (0, 0) _ N4.out Tryz.underlying30 rfl (by kernel_rfl) ?_) | (refine wpList_store_row rfl 30 _ _ rfl (w.heap.size + 1 + 1) #[.int .i64 st, .int .i64 sh, .int .i64 sd, .int .i64 sp, .int .i64 qu, .int .i64 qs, .int .i64 qh, .int .i64 qa, .int .i64 qn, .int .i64 fu, .int .i64 fs, .int .i64 fh, .int .i64 fa, .int .i64 fn, .slice (some ⟨gb', 0, none⟩) (n + 1) cb'] rfl rfl 30 _ R4.out (by kernel_rfl) rfl (by simp [Value.oneCell']) ?_))
      exact row_ret2 (r := w.heap.size + 1 + 1) (cs := #[.int .i64 st, .int .i64 sh, .int .i64 sd, .int .i64 sp, .int .i64 qu, .int .i64 qs, .int .i64 qh, .int .i64 qa, .int .i64 qn, .int .i64 fu, .int .i64 fs, .int .i64 fh, .int .i64 fa, .int .i64 fn, .slice (some ⟨gb', 0, none⟩) (n + 1) cb']) rfl rfl rfl (setRow_heap _ _ _ _ _ _ R4.out) Tryz.underlying30 rfl (by kernel_rfl) rfl ⟨⟨st, sh, sd, sp, ⟨⟨qu, qs, qh, qa⟩, qn⟩, ⟨⟨fu, fs, fh, fa⟩, fn⟩⟩, some ⟨gb', 0, none⟩, n + 1, cb', by rw [HE.out]; rfl, by rw [HE.out]; exact fun _ => ⟨rfl, .inr ⟨gb', rfl, e9.symm, MF.out.heap (setRow_other _ _ _ _ (by omega))⟩⟩, below_setRow K4.out (by omega) _⟩

set_option maxRecDepth 100000 in
set_option maxHeartbeats 16000000 in
theorem hearing_f (s : SeatV) (A : Option Addr) (n cap : Nat) (l : List WordV) (b : BoxV) (w : World) (h : EltsO w w.heap.size A n l) (hzc : A = none → cap = 0) (hn : n ≤ 1048576) (ht : Tab w) :
    Calls Tryz.prog 26 #[s.val A n cap, .iface 86 s.f.val, b.val] w fun e w' => ∃ (q : SeatV) (A' : Option Addr) (n' c' : Nat), e = .returned (.tuple #[q.val A' n' c', .int .i64 (codeF s n b)]) ∧ ((codeF s n b = 2 → q = { s with st := 2, e := .zero, f := takeR s.f b } ∧ LogOut w' w.heap.size A' n' c' l) ∧ (codeF s n b = 3 → q = { s with f := takeR s.f b } ∧ LogOut w' w.heap.size A' n' c' (l ++ [⟨takeT s.f b, false⟩]))) ∧ Below w.heap.size w w' := by
  obtain ⟨i0, by0, hi, hz0, hz1, hz2, hby⟩ := infoWordE
  have E := Lib.hid h
  have hln : l.length = n := h.1
  have cC' := fun (w' : World) (h' : EltsO w' w'.heap.size A n l) => copied_any s A n cap l w' h' hzc hn
  have cT' := fun (g cb : Nat) (w' : World) => takenIn_f s.f s (some ⟨g, 0, none⟩) n cb b w'
  have HTB := Lib.hid ht
  have cA' := fun (w' : World) hT => heardAs_f s A n cap s.f (takeT s.f b) hn w' hT
  clear h hzc ht
  obtain ⟨ya, hya⟩ : ∃ ya, (if s.st = 1 then (if isEnd (takeT s.f b) n then (2 : Int) else 0) else if n = 60 then 0 else 3) = ya := ⟨_, rfl⟩
  obtain ⟨y, hy⟩ : ∃ y, codeF s n b = y := ⟨_, rfl⟩
  have hy2 : (if takeB s.f b then (if s.st = 1 then (if isEnd (takeT s.f b) n then (2 : Int) else 0) else if n = 60 then 0 else 3) else 0) = y := hy
  rw [hya] at hy2 cA'
  rw [hy]
  have HY := Lib.hid hy2
  have HYA := Lib.hid hya
  clear hy hy2 hya
  obtain ⟨⟨⟨qu, qs, qh, qa⟩, qn⟩, hq⟩ : ∃ x, takeR s.f b = x := ⟨_, rfl⟩
  rw [hq] at cT' ⊢
  clear hq
  generalize takeT s.f b = tt at cT' cA' HYA ⊢
  generalize takeB s.f b = tb at cT' HY
  obtain ⟨⟨xu, xs, xh, xa⟩, xn, xt, xp⟩ := b
  obtain ⟨st, sh, sd, sp, ⟨⟨eu, es, eh, ea⟩, en⟩, ⟨⟨fu, fs, fh, fa⟩, fn⟩⟩ := s
  have HV : Hid (SeatV.val ⟨st, sh, sd, sp, ⟨⟨eu, es, eh, ea⟩, en⟩, ⟨⟨fu, fs, fh, fa⟩, fn⟩⟩ A n cap = .agg #[.int .i64 st, .int .i64 sh, .int .i64 sd, .int .i64 sp, .int .i64 eu, .int .i64 es, .int .i64 eh, .int .i64 ea, .int .i64 en, .int .i64 fu, .int .i64 fs, .int .i64 fh, .int .i64 fa, .int .i64 fn, .slice A n cap]) := rfl
  have HVG := fun (g cb : Nat) => Lib.hid (show SeatV.val ⟨st, sh, sd, sp, ⟨⟨eu, es, eh, ea⟩, en⟩, ⟨⟨fu, fs, fh, fa⟩, fn⟩⟩ (some ⟨g, 0, none⟩) n cb = .agg #[.int .i64 st, .int .i64 sh, .int .i64 sd, .int .i64 sp, .int .i64 eu, .int .i64 es, .int .i64 eh, .int .i64 ea, .int .i64 en, .int .i64 fu, .int .i64 fs, .int .i64 fh, .int .i64 fa, .int .i64 fn, .slice (some ⟨g, 0, none⟩) n cb] from rfl)
  have HX : Hid (BoxV.val ⟨⟨xu, xs, xh, xa⟩, xn, xt, xp⟩ = .agg #[.int .i64 xu, .int .i64 xs, .int .i64 xh, .int .i64 xa, .int .i64 xn, .string xt, .bool xp]) := rfl
  have HR : Hid (RowV.val ⟨⟨fu, fs, fh, fa⟩, fn⟩ = .agg #[.int .i64 fu, .int .i64 fs, .int .i64 fh, .int .i64 fa, .int .i64 fn]) := rfl
  dsimp only at cT' cA' HY HYA ⊢
  rw [HV.out, HR.out, HX.out]
  have cC : Hid (∀ w' : World, EltsO w' w'.heap.size A n l → Calls Tryz.prog 27 #[.agg #[.int .i64 st, .int .i64 sh, .int .i64 sd, .int .i64 sp, .int .i64 eu, .int .i64 es, .int .i64 eh, .int .i64 ea, .int .i64 en, .int .i64 fu, .int .i64 fs, .int .i64 fh, .int .i64 fa, .int .i64 fn, .slice A n cap]] w' fun e w'' => ∃ g cb, e = .returned (.agg #[.int .i64 st, .int .i64 sh, .int .i64 sd, .int .i64 sp, .int .i64 eu, .int .i64 es, .int .i64 eh, .int .i64 ea, .int .i64 en, .int .i64 fu, .int .i64 fs, .int .i64 fh, .int .i64 fa, .int .i64 fn, .slice (some ⟨g, 0, none⟩) n cb]) ∧ MadeE w'' w'.heap.size 49 l g cb ∧ Below w'.heap.size w' w'') := cC'
  have cT : Hid (∀ (g cb : Nat) (w' : World), Calls Tryz.prog 121 #[.agg #[.int .i64 fu, .int .i64 fs, .int .i64 fh, .int .i64 fa, .int .i64 fn], .agg #[.int .i64 st, .int .i64 sh, .int .i64 sd, .int .i64 sp, .int .i64 eu, .int .i64 es, .int .i64 eh, .int .i64 ea, .int .i64 en, .int .i64 fu, .int .i64 fs, .int .i64 fh, .int .i64 fa, .int .i64 fn, .slice (some ⟨g, 0, none⟩) n cb], .agg #[.int .i64 xu, .int .i64 xs, .int .i64 xh, .int .i64 xa, .int .i64 xn, .string xt, .bool xp]] w' fun e w'' => e = .returned (.tuple #[.agg #[.int .i64 st, .int .i64 sh, .int .i64 sd, .int .i64 sp, .int .i64 eu, .int .i64 es, .int .i64 eh, .int .i64 ea, .int .i64 en, .int .i64 qu, .int .i64 qs, .int .i64 qh, .int .i64 qa, .int .i64 qn, .slice (some ⟨g, 0, none⟩) n cb], .string tt, .bool tb]) ∧ Below w'.heap.size w' w'') := cT'
  have cA : Hid (∀ w' : World, Tab w' → Calls Tryz.prog 54 #[.agg #[.int .i64 st, .int .i64 sh, .int .i64 sd, .int .i64 sp, .int .i64 eu, .int .i64 es, .int .i64 eh, .int .i64 ea, .int .i64 en, .int .i64 fu, .int .i64 fs, .int .i64 fh, .int .i64 fa, .int .i64 fn, .slice A n cap], .iface 86 (.agg #[.int .i64 fu, .int .i64 fs, .int .i64 fh, .int .i64 fa, .int .i64 fn]), .string tt] w' fun e w'' => e = .returned (.int .i64 ya) ∧ Below w'.heap.size w' w'') := cA'
  clear cC' cT' cA' HV HX HR HVG
  obtain ⟨W0, hW0⟩ : ∃ W, ((w.alloc (.cells #[.int .i64 st, .int .i64 sh, .int .i64 sd, .int .i64 sp, .int .i64 eu, .int .i64 es, .int .i64 eh, .int .i64 ea, .int .i64 en, .int .i64 fu, .int .i64 fs, .int .i64 fh, .int .i64 fa, .int .i64 fn, .slice A n cap] 30)).alloc (.cells #[.int .i64 xu, .int .i64 xs, .int .i64 xh, .int .i64 xa, .int .i64 xn, .string xt, .bool xp] 32)).alloc (.cells #[.int .i64 0, .int .i64 0, .int .i64 0, .int .i64 0, .int .i64 0, .int .i64 0, .int .i64 0, .int .i64 0, .int .i64 0, .int .i64 0, .int .i64 0, .int .i64 0, .int .i64 0, .int .i64 0, .slice none 0 0] 30) = W := ⟨_, rfl⟩
  have K0 : Hid (Below w.heap.size w W0) := by rw [← hW0]; exact (((Below.refl _ w).alloc (Nat.le_refl _) _).alloc (by simp; try omega) _).alloc (by simp; try omega) _
  have Y0 : Hid (W0.heap[w.heap.size]? = some (.cells #[.int .i64 st, .int .i64 sh, .int .i64 sd, .int .i64 sp, .int .i64 eu, .int .i64 es, .int .i64 eh, .int .i64 ea, .int .i64 en, .int .i64 fu, .int .i64 fs, .int .i64 fh, .int .i64 fa, .int .i64 fn, .slice A n cap] 30)) := by rw [← hW0]; exact heap3a w _ _ _
  have X0 : Hid (W0.heap[w.heap.size + 1]? = some (.cells #[.int .i64 xu, .int .i64 xs, .int .i64 xh, .int .i64 xa, .int .i64 xn, .string xt, .bool xp] 32)) := by rw [← hW0]; exact heap3b w _ _ _
  have R0 : Hid (W0.heap[w.heap.size + 1 + 1]? = some (.cells #[.int .i64 0, .int .i64 0, .int .i64 0, .int .i64 0, .int .i64 0, .int .i64 0, .int .i64 0, .int .i64 0, .int .i64 0, .int .i64 0, .int .i64 0, .int .i64 0, .int .i64 0, .int .i64 0, .slice none 0 0] 30)) := by rw [← hW0]; exact heap3c w _ _ _
  have zW0 : W0.heap.size = w.heap.size + 3 := by rw [← hW0]; simp
  go_enter Tryz.func26, Tryz.ntmps26
  go_wp2
  clear hW0
  have hmf : ∀ (fn : Fn) (first cap : Array Value) (w : World), (Instr.makeFunc fn first cap).run Tryz.prog w = .ok (.func fn first cap) w := fun _ _ _ _ => rfl
  refine wp_region_ownp (W := W0) [] (fun _ => True) stays_true trivial [0, 0, 1, 0, 0, 5, 0, 1, 0, 0, 0, 0, 2, 3, 0, 0] [0, 4, 5, 1, 2, 3, 6, 7, 8, 9, 10, 11, 12, 13, 14, 15] (by kernel_rfl) (by kernel_rfl) (by kernel_rfl) ?_
  simp only [List.map_cons, List.map_nil, List.filterMap_cons, List.filterMap_nil, List.getD_cons_zero, List.getD_cons_succ, List.getElem?_cons_zero, List.getElem?_cons_succ]
  have rY : Hid (∀ q : In (plainEnv W0 []), q.w.heap[w.heap.size]? = some (.cells #[.int .i64 st, .int .i64 sh, .int .i64 sd, .int .i64 sp, .int .i64 eu, .int .i64 es, .int .i64 eh, .int .i64 ea, .int .i64 en, .int .i64 fu, .int .i64 fs, .int .i64 fh, .int .i64 fa, .int .i64 fn, .slice A n cap] 30)) := fun q => q.block Y0.out (by simp)
  have rX : Hid (∀ q : In (plainEnv W0 []), q.w.heap[w.heap.size + 1]? = some (.cells #[.int .i64 xu, .int .i64 xs, .int .i64 xh, .int .i64 xa, .int .i64 xn, .string xt, .bool xp] 32)) := fun q => q.block X0.out (by simp)
  refine wpO_quiet 2 rfl (by kernel_rfl) ?_
  simp only [List.take, List.drop]
  repeat (go_big_quiet_step (fail))
  refine wpQuiet_nil ?_
  refine wpO_read5 (.func (.method "loop.example/g00558/impl.takenIn") #[.iface 86 (.agg #[.int .i64 fu, .int .i64 fs, .int .i64 fh, .int .i64 fa, .int .i64 fn])] #[]) rfl stays_true (fun w' hC hF => by first | kernel_rfl | simp [go_sem]) ?_
  simp only [Act.put, List.setIfInBounds_toArray, List.set_cons_succ, List.set_cons_zero]
  refine wpO_load_row rfl 30 _ rfl (w.heap.size) rfl 30 _ (0, 0) _ rY.out Tryz.underlying30 rfl (by kernel_rfl) ?_
  simp only [Act.put, List.setIfInBounds_toArray, List.set_cons_succ, List.set_cons_zero]
  refine wpO_callx (f := 27) (args := #[.agg #[.int .i64 st, .int .i64 sh, .int .i64 sd, .int .i64 sp, .int .i64 eu, .int .i64 es, .int .i64 eh, .int .i64 ea, .int .i64 en, .int .i64 fu, .int .i64 fs, .int .i64 fh, .int .i64 fa, .int .i64 fn, .slice A n cap]]) (α := Nat × Nat) (fun z => .agg #[.int .i64 st, .int .i64 sh, .int .i64 sd, .int .i64 sp, .int .i64 eu, .int .i64 es, .int .i64 eh, .int .i64 ea, .int .i64 en, .int .i64 fu, .int .i64 fs, .int .i64 fh, .int .i64 fa, .int .i64 fn, .slice (some ⟨z.1, 0, none⟩) n z.2]) (fun z => [z.1]) (fun z w' => MadeE w' W0.heap.size 49 l z.1 z.2) rfl (fun w' => by simp [go_sem]) (fun z w1 w2 hw h b => h.below b) (fun G => ?_) (fun w' hw hF => ?_) (fun z hz => ?_)
  · obtain ⟨g, hg, hn'⟩ := fresh_above W0.heap.size G
    exact ⟨(g, 0), fun k hk => by simp at hk; subst hk; exact ⟨hg, hn'⟩⟩
  · exact (cC.out w' ((E.out.below (K0.out.trans ((kept_below hw).mono K0.out.size))).mono (Nat.le_trans K0.out.size (kept_below hw).size))).mono fun e w'' ⟨g, cb, he, m1, b1⟩ => ⟨(g, cb), he, m1.mono (kept_below hw).size, b1, fun k hk => by simp at hk; subst hk; exact m1.base⟩
  obtain ⟨g, cb⟩ := z
  have hgl : W0.heap.size ≤ g := (hz g (by simp)).1
  dsimp only
  simp only [Act.put, List.setIfInBounds_toArray, List.set_cons_succ, List.set_cons_zero]
  refine wpO_load_row rfl 32 _ rfl (w.heap.size + 1) rfl 32 _ (0, 0) _ rX.out Tryz.underlying32 rfl (by kernel_rfl) ?_
  simp only [Act.put, List.setIfInBounds_toArray, List.set_cons_succ, List.set_cons_zero]
  refine wpO_quiet 1 rfl (by kernel_rfl) ?_
  simp only [List.take, List.drop]
  repeat (go_big_quiet_step (fail))
  refine wpQuiet_nil ?_
  refine wpO_call (f := 121) (args := #[.agg #[.int .i64 fu, .int .i64 fs, .int .i64 fh, .int .i64 fa, .int .i64 fn], .agg #[.int .i64 st, .int .i64 sh, .int .i64 sd, .int .i64 sp, .int .i64 eu, .int .i64 es, .int .i64 eh, .int .i64 ea, .int .i64 en, .int .i64 fu, .int .i64 fs, .int .i64 fh, .int .i64 fa, .int .i64 fn, .slice (some ⟨g, 0, none⟩) n cb], .agg #[.int .i64 xu, .int .i64 xs, .int .i64 xh, .int .i64 xa, .int .i64 xn, .string xt, .bool xp]]) (.tuple #[.agg #[.int .i64 st, .int .i64 sh, .int .i64 sd, .int .i64 sp, .int .i64 eu, .int .i64 es, .int .i64 eh, .int .i64 ea, .int .i64 en, .int .i64 qu, .int .i64 qs, .int .i64 qh, .int .i64 qa, .int .i64 qn, .slice (some ⟨g, 0, none⟩) n cb], .string tt, .bool tb]) rfl (fun w' => by kernel_rfl) (fun w' hC _ => cT.out g cb w') ?_
  simp only [Act.put, List.setIfInBounds_toArray, List.set_cons_succ, List.set_cons_zero]
  refine wpO_quiet 4 rfl (by kernel_rfl) ?_
  simp only [List.take, List.drop]
  repeat (go_big_quiet_step (fail))
  refine wpQuiet_nil ?_
  refine wpO_alloc (.cells #[.int .i64 0, .int .i64 0, .int .i64 0, .int .i64 0, .int .i64 0, .int .i64 0, .int .i64 0, .int .i64 0, .int .i64 0, .int .i64 0, .int .i64 0, .int .i64 0, .int .i64 0, .int .i64 0, .slice none 0 0] 30) rfl (fun w' => by simp [go_sem]) fun gN mg hng => ?_
  have hgN : W0.heap.size ≤ gN := mg
  have hne : g ≠ gN := fun e => hng (by subst e; simp)
  simp only [Act.put, List.setIfInBounds_toArray, List.set_cons_succ, List.set_cons_zero]
  refine wpO_store (g := gN) (t := 30) (old := #[.int .i64 0, .int .i64 0, .int .i64 0, .int .i64 0, .int .i64 0, .int .i64 0, .int .i64 0, .int .i64 0, .int .i64 0, .int .i64 0, .int .i64 0, .int .i64 0, .int .i64 0, .int .i64 0, .slice none 0 0]) (fun w' => MadeE w' W0.heap.size 49 l g cb) #[.int .i64 st, .int .i64 sh, .int .i64 sd, .int .i64 sp, .int .i64 eu, .int .i64 es, .int .i64 eh, .int .i64 ea, .int .i64 en, .int .i64 qu, .int .i64 qs, .int .i64 qh, .int .i64 qa, .int .i64 qn, .slice (some ⟨g, 0, none⟩) n cb] rfl rfl rfl rfl (Env.own _ mg) (by kernel_rfl) rfl rfl (fun w' h => ⟨h.1.2, h.2⟩) (fun w1 w2 hw h b => h.below b) (fun w1 w2 hw h => h.heap (hw g h.base.2 hne)) ?_
  simp only [Act.put]
  refine wpO_quiet 2 rfl (by kernel_rfl) ?_
  simp only [List.take, List.drop]
  repeat (go_big_quiet_step (fail))
  refine wpQuiet_nil ?_
  refine wpO_nil ?_
  rintro w1 hb' ⟨hM, hG⟩
  have hb := kept_below hb'
  have ltN := blk_in hG
  have hgb := hM.base
  have Y1 := Lib.hid (blk_on hb Y0.out)
  have X1 := Lib.hid (blk_on hb X0.out)
  have R1 := Lib.hid (blk_on hb R0.out)
  have K1 := Lib.hid (K0.out.trans (hb.mono K0.out.size))
  clear hb hb' rY rX Y0 X0 R0 K0
  have N1 := Lib.hid hG
  have M0 : Hid (MadeE w1 w.heap.size 49 l g cb) := hM.mono (by omega)
  clear hG hM
  cases tb with
  | false =>
    have HE : Hid (y = 0) := by show _ = _; rw [← HY.out]; rfl
    go_wp2_with (refine wpList_store_row rfl 30 _ _ rfl (w.heap.size + 1 + 1) #[.int .i64 0, .int .i64 0, .int .i64 0, .int .i64 0, .int .i64 0, .int .i64 0, .int .i64 0, .int .i64 0, .int .i64 0, .int .i64 0, .int .i64 0, .int .i64 0, .int .i64 0, .int .i64 0, .slice none 0 0] rfl rfl 30 _ R1.out (by kernel_rfl) rfl (by simp [Value.oneCell']) ?_)
    exact row_ret2 (r := w.heap.size + 1 + 1) (cs := #[.int .i64 0, .int .i64 0, .int .i64 0, .int .i64 0, .int .i64 0, .int .i64 0, .int .i64 0, .int .i64 0, .int .i64 0, .int .i64 0, .int .i64 0, .int .i64 0, .int .i64 0, .int .i64 0, .slice none 0 0]) rfl rfl rfl (setRow_heap _ _ _ _ _ _ R1.out) Tryz.underlying30 rfl (by kernel_rfl) rfl ⟨.zero, none, 0, 0, by rw [HE.out]; rfl, by rw [HE.out]; exact ⟨fun hc => absurd hc (by decide), fun hc => absurd hc (by decide)⟩, below_setRow K1.out (by omega) _⟩
  | true =>
    have HY2 : Hid (y = ya) := by show _ = _; rw [← HY.out, if_pos rfl]
    clear HY
    go_wp2_with (refine wpList_load_row rfl 30 _ rfl (w.heap.size) rfl 30 _ (0, 0) _ Y1.out Tryz.underlying30 rfl (by kernel_rfl) ?_)
    refine (cA.out _ (HTB.out.on K1.out)).mono ?_
    rintro e w2 ⟨rfl, hb⟩
    have M1 := Lib.hid (M0.out.below hb)
    clear M0
    have Y2 := Lib.hid (blk_on hb Y1.out)
    have X2 := Lib.hid (blk_on hb X1.out)
    have R2 := Lib.hid (blk_on hb R1.out)
    have N2 := Lib.hid (blk_on hb N1.out)
    have K2 := Lib.hid (K1.out.trans (hb.mono K1.out.size))
    clear hb Y1 X1 R1 N1 K1
    by_cases hs : st = 1
    ·
      cases hi : isEnd tt n
      ·
        obtain rfl : ya = (0 : Int) := by rw [← HYA.out, if_pos hs, hi, if_neg Bool.false_ne_true]
        have HE := Lib.hid HY2.out
        clear HYA HY2 hs hi
        go_wp2_with (first | (refine wpList_load_row rfl 30 _ rfl (gN) rfl 30 _ (0, 0) _ N2.out Tryz.underlying30 rfl (by kernel_rfl) ?_) | (refine wpList_store_row rfl 30 _ _ rfl (w.heap.size + 1 + 1) #[.int .i64 st, .int .i64 sh, .int .i64 sd, .int .i64 sp, .int .i64 eu, .int .i64 es, .int .i64 eh, .int .i64 ea, .int .i64 en, .int .i64 qu, .int .i64 qs, .int .i64 qh, .int .i64 qa, .int .i64 qn, .slice (some ⟨g, 0, none⟩) n cb] rfl rfl 30 _ R2.out (by kernel_rfl) rfl (by simp [Value.oneCell']) ?_))
        exact row_ret2 (r := w.heap.size + 1 + 1) (cs := #[.int .i64 st, .int .i64 sh, .int .i64 sd, .int .i64 sp, .int .i64 eu, .int .i64 es, .int .i64 eh, .int .i64 ea, .int .i64 en, .int .i64 qu, .int .i64 qs, .int .i64 qh, .int .i64 qa, .int .i64 qn, .slice (some ⟨g, 0, none⟩) n cb]) rfl rfl rfl (setRow_heap _ _ _ _ _ _ R2.out) Tryz.underlying30 rfl (by kernel_rfl) rfl ⟨⟨st, sh, sd, sp, ⟨⟨eu, es, eh, ea⟩, en⟩, ⟨⟨qu, qs, qh, qa⟩, qn⟩⟩, some ⟨g, 0, none⟩, n, cb, by rw [HE.out]; rfl, by rw [HE.out]; exact ⟨fun hc => absurd hc (by decide), fun hc => absurd hc (by decide)⟩, below_setRow K2.out (by omega) _⟩
      ·
        obtain rfl : ya = (2 : Int) := by rw [← HYA.out, if_pos hs, hi, if_pos rfl]
        have HE := Lib.hid HY2.out
        clear HYA HY2 hs hi
        obtain ⟨⟨a0, a1, a2, a3, a4, a5, a6, a7, a8, a9, a10, a11, a12, a13, a14⟩, az0, az1, az2, az3, az4, az5, az6, az7, az8, az9, az10, az11, az12, az13, az14⟩ := blk15 N2.out
        obtain ⟨S3, qS3⟩ : ∃ W, setAll w2 gN 0 [.int .i64 2] = W := ⟨_, rfl⟩
        have hS3 : (w2.setCell ⟨gN, 0, none⟩ (.int .i64 2)) = S3 := qS3
        have Y3 : Hid (S3.heap[w.heap.size]? = some (.cells #[.int .i64 st, .int .i64 sh, .int .i64 sd, .int .i64 sp, .int .i64 eu, .int .i64 es, .int .i64 eh, .int .i64 ea, .int .i64 en, .int .i64 fu, .int .i64 fs, .int .i64 fh, .int .i64 fa, .int .i64 fn, .slice A n cap] 30)) := by rw [← qS3]; exact setAll_away (by omega) _ _ Y2.out
        have X3 : Hid (S3.heap[w.heap.size + 1]? = some (.cells #[.int .i64 xu, .int .i64 xs, .int .i64 xh, .int .i64 xa, .int .i64 xn, .string xt, .bool xp] 32)) := by rw [← qS3]; exact setAll_away (by omega) _ _ X2.out
        have R3 : Hid (S3.heap[w.heap.size + 1 + 1]? = some (.cells #[.int .i64 0, .int .i64 0, .int .i64 0, .int .i64 0, .int .i64 0, .int .i64 0, .int .i64 0, .int .i64 0, .int .i64 0, .int .i64 0, .int .i64 0, .int .i64 0, .int .i64 0, .int .i64 0, .slice none 0 0] 30)) := by rw [← qS3]; exact setAll_away (by omega) _ _ R2.out
        have N3 : Hid (S3.heap[gN]? = some (.cells #[.int .i64 2, .int .i64 sh, .int .i64 sd, .int .i64 sp, .int .i64 eu, .int .i64 es, .int .i64 eh, .int .i64 ea, .int .i64 en, .int .i64 qu, .int .i64 qs, .int .i64 qh, .int .i64 qa, .int .i64 qn, .slice (some ⟨g, 0, none⟩) n cb] 30)) := by
          rw [← qS3]
          refine (setAll_blk (w := w2) (g := gN) [.int .i64 2] 0 N2.out).trans ?_
          refine congrArg (fun z => some (Obj.cells z 30 (0, 0))) (Array.toList_inj.1 ?_)
          rw [overA_toList _ _ _ (by simp)]
          rfl
        have K3 : Hid (Below w.heap.size w S3) := by rw [← qS3]; exact setAll_below (g := gN) (by omega) [.int .i64 2] 0 K2.out
        have zS3 : w2.heap.size = S3.heap.size := by rw [← qS3]; exact (setAll_size [.int .i64 2] 0 _).symm
        clear qS3 Y2 X2 R2 N2 K2
        have M2 : Hid (MadeE S3 w.heap.size 49 l g cb) := by rw [← hS3]; exact M1.out.heap (setAll_off (g := gN) (by omega) [.int .i64 2] 0)
        clear M1
        obtain ⟨⟨b0, b1, b2, b3, b4, b5, b6, b7, b8, b9, b10, b11, b12, b13, b14⟩, bz0, bz1, bz2, bz3, bz4, bz5, bz6, bz7, bz8, bz9, bz10, bz11, bz12, bz13, bz14⟩ := blk15 N3.out
        obtain ⟨S4, qS4⟩ : ∃ W, setAll S3 gN 4 [.int .i64 0, .int .i64 0, .int .i64 0, .int .i64 0, .int .i64 0] = W := ⟨_, rfl⟩
        have hS4 : (((((S3.setCell ⟨gN, 4, none⟩ (.int .i64 0)).setCell ⟨gN, 5, none⟩ (.int .i64 0)).setCell ⟨gN, 6, none⟩ (.int .i64 0)).setCell ⟨gN, 7, none⟩ (.int .i64 0)).setCell ⟨gN, 8, none⟩ (.int .i64 0)) = S4 := qS4
        have Y4 : Hid (S4.heap[w.heap.size]? = some (.cells #[.int .i64 st, .int .i64 sh, .int .i64 sd, .int .i64 sp, .int .i64 eu, .int .i64 es, .int .i64 eh, .int .i64 ea, .int .i64 en, .int .i64 fu, .int .i64 fs, .int .i64 fh, .int .i64 fa, .int .i64 fn, .slice A n cap] 30)) := by rw [← qS4]; exact setAll_away (by omega) _ _ Y3.out
        have X4 : Hid (S4.heap[w.heap.size + 1]? = some (.cells #[.int .i64 xu, .int .i64 xs, .int .i64 xh, .int .i64 xa, .int .i64 xn, .string xt, .bool xp] 32)) := by rw [← qS4]; exact setAll_away (by omega) _ _ X3.out
        have R4 : Hid (S4.heap[w.heap.size + 1 + 1]? = some (.cells #[.int .i64 0, .int .i64 0, .int .i64 0, .int .i64 0, .int .i64 0, .int .i64 0, .int .i64 0, .int .i64 0, .int .i64 0, .int .i64 0, .int .i64 0, .int .i64 0, .int .i64 0, .int .i64 0, .slice none 0 0] 30)) := by rw [← qS4]; exact setAll_away (by omega) _ _ R3.out
        have N4 : Hid (S4.heap[gN]? = some (.cells #[.int .i64 2, .int .i64 sh, .int .i64 sd, .int .i64 sp, .int .i64 0, .int .i64 0, .int .i64 0, .int .i64 0, .int .i64 0, .int .i64 qu, .int .i64 qs, .int .i64 qh, .int .i64 qa, .int .i64 qn, .slice (some ⟨g, 0, none⟩) n cb] 30)) := by
          rw [← qS4]
          refine (setAll_blk (w := S3) (g := gN) [.int .i64 0, .int .i64 0, .int .i64 0, .int .i64 0, .int .i64 0] 4 N3.out).trans ?_
          refine congrArg (fun z => some (Obj.cells z 30 (0, 0))) (Array.toList_inj.1 ?_)
          rw [overA_toList _ _ _ (by simp)]
          rfl
        have K4 : Hid (Below w.heap.size w S4) := by rw [← qS4]; exact setAll_below (g := gN) (by omega) [.int .i64 0, .int .i64 0, .int .i64 0, .int .i64 0, .int .i64 0] 4 K3.out
        have zS4 : S3.heap.size = S4.heap.size := by rw [← qS4]; exact (setAll_size [.int .i64 0, .int .i64 0, .int .i64 0, .int .i64 0, .int .i64 0] 4 _).symm
        clear qS4 Y3 X3 R3 N3 K3
        have M3 : Hid (MadeE S4 w.heap.size 49 l g cb) := by rw [← hS4]; exact M2.out.heap (setAll_off (g := gN) (by omega) [.int .i64 0, .int .i64 0, .int .i64 0, .int .i64 0, .int .i64 0] 4)
        clear M2
        go_upto_region 11 with fail
        clear a0 a1 a2 a3 a4 a5 a6 a7 a8 a9 a10 a11 a12 a13 a14 az0 az1 az2 az3 az4 az5 az6 az7 az8 az9 az10 az11 az12 az13 az14
        clear b0 b1 b2 b3 b4 b5 b6 b7 b8 b9 b10 b11 b12 b13 b14 bz0 bz1 bz2 bz3 bz4 bz5 bz6 bz7 bz8 bz9 bz10 bz11 bz12 bz13 bz14
        try rw [hS4]
        clear hS3 hS4
        go_wp2_with (first | (refine wpList_load_row rfl 30 _ rfl (gN) rfl 30 _ (0, 0) _ N4.out Tryz.underlying30 rfl (by kernel_rfl) ?_) | (refine wpList_store_row rfl 30 _ _ rfl (w.heap.size + 1 + 1) #[.int .i64 2, .int .i64 sh, .int .i64 sd, .int .i64 sp, .int .i64 0, .int .i64 0, .int .i64 0, .int .i64 0, .int .i64 0, .int .i64 qu, .int .i64 qs, .int .i64 qh, .int .i64 qa, .int .i64 qn, .slice (some ⟨g, 0, none⟩) n cb] rfl rfl 30 _ R4.out (by kernel_rfl) rfl (by simp [Value.oneCell']) ?_))
        exact row_ret2 (r := w.heap.size + 1 + 1) (cs := #[.int .i64 2, .int .i64 sh, .int .i64 sd, .int .i64 sp, .int .i64 0, .int .i64 0, .int .i64 0, .int .i64 0, .int .i64 0, .int .i64 qu, .int .i64 qs, .int .i64 qh, .int .i64 qa, .int .i64 qn, .slice (some ⟨g, 0, none⟩) n cb]) rfl rfl rfl (setRow_heap _ _ _ _ _ _ R4.out) Tryz.underlying30 rfl (by kernel_rfl) rfl ⟨⟨2, sh, sd, sp, ⟨⟨0, 0, 0, 0⟩, 0⟩, ⟨⟨qu, qs, qh, qa⟩, qn⟩⟩, some ⟨g, 0, none⟩, n, cb, by rw [HE.out]; rfl, by rw [HE.out]; exact ⟨fun _ => ⟨rfl, .inr ⟨g, rfl, hln.symm, M3.out.heap (setRow_other _ _ _ _ (by omega))⟩⟩, fun hc => absurd hc (by decide)⟩, below_setRow K4.out (by omega) _⟩
    ·
      by_cases h60 : n = 60
      ·
        obtain rfl : ya = (0 : Int) := by rw [← HYA.out, if_neg hs, if_pos h60]
        have HE := Lib.hid HY2.out
        clear HYA HY2 h60 hs
        go_wp2_with (first | (refine wpList_load_row rfl 30 _ rfl (gN) rfl 30 _ (0, 0) _ N2.out Tryz.underlying30 rfl (by kernel_rfl) ?_) | (refine wpList_store_row rfl 30 _ _ rfl (w.heap.size + 1 + 1) #[.int .i64 st, .int .i64 sh, .int .i64 sd, .int .i64 sp, .int .i64 eu, .int .i64 es, .int .i64 eh, .int .i64 ea, .int .i64 en, .int .i64 qu, .int .i64 qs, .int .i64 qh, .int .i64 qa, .int .i64 qn, .slice (some ⟨g, 0, none⟩) n cb] rfl rfl 30 _ R2.out (by kernel_rfl) rfl (by simp [Value.oneCell']) ?_))
        exact row_ret2 (r := w.heap.size + 1 + 1) (cs := #[.int .i64 st, .int .i64 sh, .int .i64 sd, .int .i64 sp, .int .i64 eu, .int .i64 es, .int .i64 eh, .int .i64 ea, .int .i64 en, .int .i64 qu, .int .i64 qs, .int .i64 qh, .int .i64 qa, .int .i64 qn, .slice (some ⟨g, 0, none⟩) n cb]) rfl rfl rfl (setRow_heap _ _ _ _ _ _ R2.out) Tryz.underlying30 rfl (by kernel_rfl) rfl ⟨⟨st, sh, sd, sp, ⟨⟨eu, es, eh, ea⟩, en⟩, ⟨⟨qu, qs, qh, qa⟩, qn⟩⟩, some ⟨g, 0, none⟩, n, cb, by rw [HE.out]; rfl, by rw [HE.out]; exact ⟨fun hc => absurd hc (by decide), fun hc => absurd hc (by decide)⟩, below_setRow K2.out (by omega) _⟩
      ·
        obtain rfl : ya = (3 : Int) := by rw [← HYA.out, if_neg hs, if_neg h60]
        have HE := Lib.hid HY2.out
        clear HYA HY2 h60 hs
        have e9 : (l ++ [(⟨tt, false⟩ : WordV)]).length = n + 1 := by rw [List.length_append, hln]; rfl
        have hbk := M1.out.base
        have hRw := blk_in R2.out
        have hKs := K2.out.size
        have hNw := blk_in N2.out
        obtain ⟨⟨a0, a1, a2, a3, a4, a5, a6, a7, a8, a9, a10, a11, a12, a13, a14⟩, _⟩ := blk15 N2.out
        go_upto_region 11 with (at_builtin; refine wpList_append_own _ rfl _ _ 28 rfl w.heap.size 49 i0 WordV.zero.val 2 by0 Tryz.underlying28 hi hz0 hz1 hz2 rfl (by decide) _ n (l.flatMap Cells.cells) rfl (by have h1 := M1.out.own; rw [hln] at h1; exact h1.alloc _) ⟨w2.heap.size, 0, none⟩ 1 1 ([(⟨tt, false⟩ : WordV)].flatMap Cells.cells) rfl rfl (cells_new w2 ([.string tt, .bool false]) _) flat_one (by unfold maxLen; omega) (Nat.le_trans (Nat.mul_le_mul (by omega : n + 1 ≤ 1048577) hby) (by decide)) (by simp; omega) ?_; intro v' w3 hown' hgrow hiff; have h9 := made_app (l := l) (l2 := [(⟨tt, false⟩ : WordV)]) (n := n) (m := 1) (gb := g) (cb := cb) hown' hln.symm rfl hiff; obtain ⟨gb', cb', rfl, hM'⟩ := h9; have HM' : Hid (MadeE w3 w.heap.size 49 (l ++ [(⟨tt, false⟩ : WordV)]) gb' cb') := hM'; have HGR := Lib.hid hgrow; clear hown' hgrow hM' hiff; have O9 : Hid (w3.heap[gN]? = some (.cells #[.int .i64 st, .int .i64 sh, .int .i64 sd, .int .i64 sp, .int .i64 eu, .int .i64 es, .int .i64 eh, .int .i64 ea, .int .i64 en, .int .i64 qu, .int .i64 qs, .int .i64 qh, .int .i64 qa, .int .i64 qn, .slice (some ⟨g, 0, none⟩) n cb] 30)) := blk_off HGR.out (alloc_blk N2.out) (show gN ≠ g by omega); obtain ⟨⟨b0, b1, b2, b3, b4, b5, b6, b7, b8, b9, b10, b11, b12, b13, b14⟩, bz0, bz1, bz2, bz3, bz4, bz5, bz6, bz7, bz8, bz9, bz10, bz11, bz12, bz13, bz14⟩ := blk15 O9.out; rw [e9])
        clear a0 a1 a2 a3 a4 a5 a6 a7 a8 a9 a10 a11 a12 a13 a14
        clear b0 b1 b2 b3 b4 b5 b6 b7 b8 b9 b10 b11 b12 b13 b14 bz0 bz1 bz2 bz3 bz4 bz5 bz6 bz7 bz8 bz9 bz10 bz11 bz12 bz13 bz14
        have R3 : Hid (w3.heap[w.heap.size + 1 + 1]? = some (.cells #[.int .i64 0, .int .i64 0, .int .i64 0, .int .i64 0, .int .i64 0, .int .i64 0, .int .i64 0, .int .i64 0, .int .i64 0, .int .i64 0, .int .i64 0, .int .i64 0, .int .i64 0, .int .i64 0, .slice none 0 0] 30)) := blk_off HGR.out (alloc_blk R2.out) (show w.heap.size + 1 + 1 ≠ g by omega)
        have K3 : Hid (Below w.heap.size w w3) := below_off (K2.out.alloc K2.out.size _) HGR.out ⟨show w.heap.size ≤ g by omega, by rw [World.size_alloc]; omega⟩
        have N3 := O9
        clear O9
        clear Y2 X2 R2 N2 K2 M1
        have hb9 := HM'.out.base
        have hnN := HM'.out.not_blk N3.out (by decide)
        have hnR := HM'.out.not_blk R3.out (by decide)
        obtain ⟨S3, qS3⟩ : ∃ W, setAll w3 gN 14 [.slice (some ⟨gb', 0, none⟩) (n + 1) cb'] = W := ⟨_, rfl⟩
        have hS3 : (w3.setCell ⟨gN, 14, none⟩ (.slice (some ⟨gb', 0, none⟩) (n + 1) cb')) = S3 := qS3
        have R4 : Hid (S3.heap[w.heap.size + 1 + 1]? = some (.cells #[.int .i64 0, .int .i64 0, .int .i64 0, .int .i64 0, .int .i64 0, .int .i64 0, .int .i64 0, .int .i64 0, .int .i64 0, .int .i64 0, .int .i64 0, .int .i64 0, .int .i64 0, .int .i64 0, .slice none 0 0] 30)) := by rw [← qS3]; exact setAll_away (by omega) _ _ R3.out
        have N4 : Hid (S3.heap[gN]? = some (.cells #[.int .i64 st, .int .i64 sh, .int .i64 sd, .int .i64 sp, .int .i64 eu, .int .i64 es, .int .i64 eh, .int .i64 ea, .int .i64 en, .int .i64 qu, .int .i64 qs, .int .i64 qh, .int .i64 qa, .int .i64 qn, .slice (some ⟨gb', 0, none⟩) (n + 1) cb'] 30)) := by
          rw [← qS3]
          refine (setAll_blk (w := w3) (g := gN) [.slice (some ⟨gb', 0, none⟩) (n + 1) cb'] 14 N3.out).trans ?_
          refine congrArg (fun z => some (Obj.cells z 30 (0, 0))) (Array.toList_inj.1 ?_)
          rw [overA_toList _ _ _ (by simp)]
          rfl
        have K4 : Hid (Below w.heap.size w S3) := by rw [← qS3]; exact setAll_below (g := gN) (by omega) [.slice (some ⟨gb', 0, none⟩) (n + 1) cb'] 14 K3.out
        have zS3 : w3.heap.size = S3.heap.size := by rw [← qS3]; exact (setAll_size [.slice (some ⟨gb', 0, none⟩) (n + 1) cb'] 14 _).symm
        clear qS3 R3 N3 K3
        have MF : Hid (MadeE S3 w.heap.size 49 (l ++ [(⟨tt, false⟩ : WordV)]) gb' cb') := by
          rw [← hS3]
          exact HM'.out.heap (setAll_off (g := gN) (by omega) [.slice (some ⟨gb', 0, none⟩) (n + 1) cb'] 14)
        try rw [hS3]
        clear hS3
        go_wp2_with (first | (refine wpList_load_row rfl 30 _ rfl (gN) rfl 30 _ (0, 0) _ N4.out Tryz.underlying30 rfl (by kernel_rfl) ?_) | (refine wpList_store_row rfl 30 _ _ rfl (w.heap.size + 1 + 1) #[.int .i64 st, .int .i64 sh, .int .i64 sd, .int .i64 sp, .int .i64 eu, .int .i64 es, .int .i64 eh, .int .i64 ea, .int .i64 en, .int .i64 qu, .int .i64 qs, .int .i64 qh, .int .i64 qa, .int .i64 qn, .slice (some ⟨gb', 0, none⟩) (n + 1) cb'] rfl rfl 30 _ R4.out (by kernel_rfl) rfl (by simp [Value.oneCell']) ?_))
        exact row_ret2 (r := w.heap.size + 1 + 1) (cs := #[.int .i64 st, .int .i64 sh, .int .i64 sd, .int .i64 sp, .int .i64 eu, .int .i64 es, .int .i64 eh, .int .i64 ea, .int .i64 en, .int .i64 qu, .int .i64 qs, .int .i64 qh, .int .i64 qa, .int .i64 qn, .slice (some ⟨gb', 0, none⟩) (n + 1) cb']) rfl rfl rfl (setRow_heap _ _ _ _ _ _ R4.out) Tryz.underlying30 rfl (by kernel_rfl) rfl ⟨⟨st, sh, sd, sp, ⟨⟨eu, es, eh, ea⟩, en⟩, ⟨⟨qu, qs, qh, qa⟩, qn⟩⟩, some ⟨gb', 0, none⟩, n + 1, cb', by rw [HE.out]; rfl, by rw [HE.out]; exact ⟨fun hc => absurd hc (by decide), fun _ => ⟨rfl, .inr ⟨gb', rfl, e9.symm, MF.out.heap (setRow_other _ _ _ _ (by omega))⟩⟩⟩, below_setRow K4.out (by omega) _⟩

theorem LogOut.to {w w' : World} {B B' n cap : Nat} {A : Option Addr} {l : List WordV} (h : LogOut w B A n cap l) (hB : B' ≤ B) (he : ∀ g, B ≤ g → g < w.heap.size → w'.heap[g]? = w.heap[g]?) : LogOut w' B' A n cap l := by
  rcases h with h | ⟨g, rfl, hn, hm⟩
  · exact .inl h
  · exact .inr ⟨g, rfl, hn, (hm.heap (he g hm.base.1 hm.base.2)).mono hB⟩
/-- The same of a right seat, as what is heard. -/
theorem hearing_e' (s : SeatV) (A : Option Addr) (n cap : Nat) (l : List WordV) (b : BoxV) (w : World) (h : EltsO w w.heap.size A n l) (hzc : A = none → cap = 0) (hn : n ≤ 1048576) (hok : seatOkB s n = true) :
    Calls Tryz.prog 26 #[s.val A n cap, .iface 85 s.e.val, b.val] w fun e w' => ∃ (q : SeatV) (A' : Option Addr) (n' c' : Nat), e = .returned (.tuple #[q.val A' n' c', .int .i64 (codeE s n b)]) ∧ (codeE s n b ≠ 0 → hearC s n b = codeE s n b ∧ hearS s n b = q ∧ LogOut w' w.heap.size A' n' c' (hearL s l b)) ∧ Below w.heap.size w w' :=
  (hearing_e s A n cap l b w h hzc hn).mono fun _ _ ⟨q, A', n', c', he, hw, hb⟩ => ⟨q, A', n', c', he, fun hc => by
    obtain ⟨h1, h2, h3⟩ := hear_first (l := l) h.1 hok hc
    obtain ⟨h4, h5⟩ := hw hc
    exact ⟨h1, by rw [h2, h4], by rw [h3]; exact h5⟩, hb⟩
theorem hearing_f' (s : SeatV) (A : Option Addr) (n cap : Nat) (l : List WordV) (b : BoxV) (w : World) (h : EltsO w w.heap.size A n l) (hzc : A = none → cap = 0) (hn : n ≤ 1048576) (hok : seatOkB s n = true) (ht : Tab w) :
    Calls Tryz.prog 26 #[s.val A n cap, .iface 86 s.f.val, b.val] w fun e w' => ∃ (q : SeatV) (A' : Option Addr) (n' c' : Nat), e = .returned (.tuple #[q.val A' n' c', .int .i64 (codeF s n b)]) ∧ (codeF s n b ≠ 0 → hearC s n b = codeF s n b ∧ hearS s n b = q ∧ LogOut w' w.heap.size A' n' c' (hearL s l b)) ∧ Below w.heap.size w w' :=
  (hearing_f s A n cap l b w h hzc hn ht).mono fun _ _ ⟨q, A', n', c', he, hw, hb⟩ => ⟨q, A', n', c', he, fun hf => by
    obtain ⟨h1, h2⟩ := hear_next (l := l) h.1 hok hf
    rcases h2 with ⟨e2, h2, h3⟩ | ⟨e2, h2, h3⟩
    · obtain ⟨h4, h5⟩ := hw.1 e2
      exact ⟨h1, by rw [h2, h4], by rw [h3]; exact h5⟩
    · obtain ⟨h4, h5⟩ := hw.2 e2
      exact ⟨h1, by rw [h2, h4], by rw [h3]; exact h5⟩, hb⟩


set_option maxRecDepth 100000 in
set_option maxHeartbeats 16000000 in
theorem Hears_impl (s : SeatV) (A : Option Addr) (n cap : Nat) (l : List WordV) (b : BoxV) (w : World) (h : EltsO w w.heap.size A n l) (hzc : A = none → cap = 0) (hn : n ≤ 1048576) (ht : Tab w) :
    Calls Tryz.prog 6 #[s.val A n cap, b.val] w fun e w' => ∃ A' n' c', e = .returned (.tuple #[(hearS s n b).val A' n' c', .int .i64 (hearC s n b)]) ∧ LogOut w' w.heap.size A' n' c' (hearL s l b) ∧ Below w.heap.size w w' := by
  have E := Lib.hid h
  have hln : l.length = n := h.1
  have HTB := Lib.hid ht
  have H0' : seatOkB s n = false → hearS s n b = .zero ∧ hearC s n b = 0 ∧ hearL s l b = [] := fun e => ⟨by rw [hearS, e]; rfl, by rw [hearC, e]; rfl, by rw [hearL, hln, e]; rfl⟩
  have HN' := fun (hok : seatOkB s n = true) h1 h2 => hear_none (b := b) (l := l) hln hok h1 h2
  have cE' := fun (hok : seatOkB s n = true) (w' : World) h' => hearing_e' s A n cap l b w' h' hzc hn hok
  have cF' := fun (hok : seatOkB s n = true) (w' : World) h' hT => hearing_f' s A n cap l b w' h' hzc hn hok hT
  have cC' := fun (w' : World) (h' : EltsO w' w'.heap.size A n l) => copied_any s A n cap l w' h' hzc hn
  have cS' := fun (w' : World) => SeatOk_impl0 s A n cap w'
  have cR' := fun (w' : World) => rows_any s A n cap w'
  clear h hzc ht
  generalize codeE s n b = yE at HN' cE'
  generalize codeF s n b = yF at HN' cF'
  obtain ⟨hs, hhs⟩ : ∃ x, hearS s n b = x := ⟨_, rfl⟩
  obtain ⟨hc, hhc⟩ : ∃ x, hearC s n b = x := ⟨_, rfl⟩
  obtain ⟨ol, hol⟩ : ∃ x, hearL s l b = x := ⟨_, rfl⟩
  rw [hhs, hhc, hol] at H0' HN' ⊢
  rw [hhs, hhc, hol] at cE' cF'
  clear hhs hhc hol
  generalize seatOkB s n = zs at H0' HN' cE' cF' cS'
  obtain ⟨⟨xu, xs, xh, xa⟩, xn, xt, xp⟩ := b
  obtain ⟨st, sh, sd, sp, ⟨⟨eu, es, eh, ea⟩, en⟩, ⟨⟨fu, fs, fh, fa⟩, fn⟩⟩ := s
  have HV : Hid (SeatV.val ⟨st, sh, sd, sp, ⟨⟨eu, es, eh, ea⟩, en⟩, ⟨⟨fu, fs, fh, fa⟩, fn⟩⟩ A n cap = .agg #[.int .i64 st, .int .i64 sh, .int .i64 sd, .int .i64 sp, .int .i64 eu, .int .i64 es, .int .i64 eh, .int .i64 ea, .int .i64 en, .int .i64 fu, .int .i64 fs, .int .i64 fh, .int .i64 fa, .int .i64 fn, .slice A n cap]) := rfl
  have HX : Hid (BoxV.val ⟨⟨xu, xs, xh, xa⟩, xn, xt, xp⟩ = .agg #[.int .i64 xu, .int .i64 xs, .int .i64 xh, .int .i64 xa, .int .i64 xn, .string xt, .bool xp]) := rfl
  have HRE : Hid (RowV.val ⟨⟨eu, es, eh, ea⟩, en⟩ = .agg #[.int .i64 eu, .int .i64 es, .int .i64 eh, .int .i64 ea, .int .i64 en]) := rfl
  have HRF : Hid (RowV.val ⟨⟨fu, fs, fh, fa⟩, fn⟩ = .agg #[.int .i64 fu, .int .i64 fs, .int .i64 fh, .int .i64 fa, .int .i64 fn]) := rfl
  dsimp only at cE' cF' cR'
  rw [HV.out, HX.out]
  simp only [HV.out, HX.out, HRE.out, HRF.out] at cE' cF' cC' cS' cR'
  have H0 := Lib.hid H0'
  have HN := Lib.hid HN'
  have cEE := Lib.hid cE'
  have cFF := Lib.hid cF'
  have cCC := Lib.hid cC'
  have cSS := Lib.hid cS'
  have cRR := Lib.hid cR'
  clear H0' HN' cE' cF' cC' cS' cR' HV HX HRE HRF
  obtain ⟨W0, hW0⟩ : ∃ W, ((w.alloc (.cells #[.int .i64 st, .int .i64 sh, .int .i64 sd, .int .i64 sp, .int .i64 eu, .int .i64 es, .int .i64 eh, .int .i64 ea, .int .i64 en, .int .i64 fu, .int .i64 fs, .int .i64 fh, .int .i64 fa, .int .i64 fn, .slice A n cap] 30)).alloc (.cells #[.int .i64 xu, .int .i64 xs, .int .i64 xh, .int .i64 xa, .int .i64 xn, .string xt, .bool xp] 32)).alloc (.cells #[.int .i64 0, .int .i64 0, .int .i64 0, .int .i64 0, .int .i64 0, .int .i64 0, .int .i64 0, .int .i64 0, .int .i64 0, .int .i64 0, .int .i64 0, .int .i64 0, .int .i64 0, .int .i64 0, .slice none 0 0] 30) = W := ⟨_, rfl⟩
  have K0 : Hid (Below w.heap.size w W0) := by rw [← hW0]; exact (((Below.refl _ w).alloc (Nat.le_refl _) _).alloc (by simp; try omega) _).alloc (by simp; try omega) _
  have Y0 : Hid (W0.heap[w.heap.size]? = some (.cells #[.int .i64 st, .int .i64 sh, .int .i64 sd, .int .i64 sp, .int .i64 eu, .int .i64 es, .int .i64 eh, .int .i64 ea, .int .i64 en, .int .i64 fu, .int .i64 fs, .int .i64 fh, .int .i64 fa, .int .i64 fn, .slice A n cap] 30)) := by rw [← hW0]; exact heap3a w _ _ _
  have X0 : Hid (W0.heap[w.heap.size + 1]? = some (.cells #[.int .i64 xu, .int .i64 xs, .int .i64 xh, .int .i64 xa, .int .i64 xn, .string xt, .bool xp] 32)) := by rw [← hW0]; exact heap3b w _ _ _
  have R0 : Hid (W0.heap[w.heap.size + 1 + 1]? = some (.cells #[.int .i64 0, .int .i64 0, .int .i64 0, .int .i64 0, .int .i64 0, .int .i64 0, .int .i64 0, .int .i64 0, .int .i64 0, .int .i64 0, .int .i64 0, .int .i64 0, .int .i64 0, .int .i64 0, .slice none 0 0] 30)) := by rw [← hW0]; exact heap3c w _ _ _
  have zW0 : W0.heap.size = w.heap.size + 3 := by rw [← hW0]; simp
  go_enter Tryz.func6, Tryz.ntmps6
  go_wp2_with (refine wpList_load_row rfl 30 _ rfl (w.heap.size) rfl 30 _ (0, 0) _ Y0.out Tryz.underlying30 rfl (by kernel_rfl) ?_)
  clear hW0
  refine (cSS.out _).mono ?_
  rintro e w1 ⟨rfl, hb⟩
  have Y1 := Lib.hid (blk_on hb Y0.out)
  have X1 := Lib.hid (blk_on hb X0.out)
  have R1 := Lib.hid (blk_on hb R0.out)
  have K1 := Lib.hid (K0.out.trans (hb.mono K0.out.size))
  clear hb Y0 X0 R0 K0
  cases zs with
  | false =>
    obtain ⟨rfl, rfl, rfl⟩ := H0.out rfl
    go_wp2_with (refine wpList_store_row rfl 30 _ _ rfl (w.heap.size + 1 + 1) #[.int .i64 0, .int .i64 0, .int .i64 0, .int .i64 0, .int .i64 0, .int .i64 0, .int .i64 0, .int .i64 0, .int .i64 0, .int .i64 0, .int .i64 0, .int .i64 0, .int .i64 0, .int .i64 0, .slice none 0 0] rfl rfl 30 _ R1.out (by kernel_rfl) rfl (by simp [Value.oneCell']) ?_)
    exact row_ret2 (r := w.heap.size + 1 + 1) (cs := #[.int .i64 0, .int .i64 0, .int .i64 0, .int .i64 0, .int .i64 0, .int .i64 0, .int .i64 0, .int .i64 0, .int .i64 0, .int .i64 0, .int .i64 0, .int .i64 0, .int .i64 0, .int .i64 0, .slice none 0 0]) rfl rfl rfl (setRow_heap _ _ _ _ _ _ R1.out) Tryz.underlying30 rfl (by kernel_rfl) rfl ⟨none, 0, 0, rfl, .inl ⟨rfl, rfl, rfl, rfl⟩, below_setRow K1.out (by omega) _⟩
  | true =>
    have HN1 := Lib.hid (HN.out rfl)
    have cE := Lib.hid (cEE.out rfl)
    have cF := Lib.hid (cFF.out rfl)
    clear HN cEE cFF H0 cSS
    go_wp2_with (refine wpList_load_row rfl 30 _ rfl (w.heap.size) rfl 30 _ (0, 0) _ Y1.out Tryz.underlying30 rfl (by kernel_rfl) ?_)
    refine (cRR.out _).mono ?_
    rintro e w2 ⟨gr, rfl, hgr, hG, hb⟩
    have hgr0 : w.heap.size ≤ gr := Nat.le_trans K1.out.size hgr
    have ltG := blk_in hG
    have hRw := blk_in R1.out
    have hgR : w.heap.size + 1 + 1 < gr := by omega
    have Y2 := Lib.hid (blk_on hb Y1.out)
    have X2 := Lib.hid (blk_on hb X1.out)
    have R2 := Lib.hid (blk_on hb R1.out)
    have K2 := Lib.hid (K1.out.trans (hb.mono K1.out.size))
    clear hb cRR Y1 X1 R1 K1
    have G0 := Lib.hid hG
    clear hG
    go_wp2
    go_loopw [17] (fun i wr => ((i = .int .i64 0) ∨ (i = .int .i64 1 ∧ yE = 0) ∨ (i = .int .i64 2 ∧ yE = 0 ∧ yF = 0)) ∧ wr.heap[w.heap.size]? = some (.cells #[.int .i64 st, .int .i64 sh, .int .i64 sd, .int .i64 sp, .int .i64 eu, .int .i64 es, .int .i64 eh, .int .i64 ea, .int .i64 en, .int .i64 fu, .int .i64 fs, .int .i64 fh, .int .i64 fa, .int .i64 fn, .slice A n cap] 30) ∧ wr.heap[w.heap.size + 1]? = some (.cells #[.int .i64 xu, .int .i64 xs, .int .i64 xh, .int .i64 xa, .int .i64 xn, .string xt, .bool xp] 32) ∧ wr.heap[w.heap.size + 1 + 1]? = some (.cells #[.int .i64 0, .int .i64 0, .int .i64 0, .int .i64 0, .int .i64 0, .int .i64 0, .int .i64 0, .int .i64 0, .int .i64 0, .int .i64 0, .int .i64 0, .int .i64 0, .int .i64 0, .int .i64 0, .slice none 0 0] 30) ∧ wr.heap[gr]? = some (.cells #[.iface 85 (.agg #[.int .i64 eu, .int .i64 es, .int .i64 eh, .int .i64 ea, .int .i64 en]), .iface 86 (.agg #[.int .i64 fu, .int .i64 fs, .int .i64 fh, .int .i64 fa, .int .i64 fn])] 61) ∧ Below w.heap.size w wr) (fun i _ => 2 - (intOf i).toNat)
    case atStart => exact ⟨.inl rfl, Y2.out, X2.out, R2.out, G0.out, K2.out⟩
    case round =>
      obtain ⟨hi, hY, hX, hR, hG, hK⟩ := hrel
      have Y9 := Lib.hid hY
      have X9 := Lib.hid hX
      have R9 := Lib.hid hR
      have G9 := Lib.hid hG
      have K9 := Lib.hid hK
      clear hY hX hR hG hK Y2 X2 R2 G0 K2
      rcases hi with rfl | ⟨rfl, hyE⟩ | ⟨rfl, hyE, hyF⟩
      ·
        have gc := blk_cell G9.out 0
        have gn := blk_in R9.out
        have gs := K9.out.size
        have ltG9 := blk_in G9.out
        go_wp2_with (first | (refine wpList_load_row rfl 30 _ rfl (w.heap.size) rfl 30 _ (0, 0) _ Y9.out Tryz.underlying30 rfl (by kernel_rfl) ?_) | (refine wpList_load_row rfl 32 _ rfl (w.heap.size + 1) rfl 32 _ (0, 0) _ X9.out Tryz.underlying32 rfl (by kernel_rfl) ?_))
        clear gc
        refine (cE.out _ ((E.out.below K9.out).mono K9.out.size)).mono ?_
        rintro e w21 ⟨⟨vst, vsh, vsd, vsp, ⟨⟨veu, ves, veh, vea⟩, ven⟩, ⟨⟨vfu, vfs, vfh, vfa⟩, vfn⟩⟩, A', n', c', rfl, hL, hb⟩
        have HQ : Hid (SeatV.val ⟨vst, vsh, vsd, vsp, ⟨⟨veu, ves, veh, vea⟩, ven⟩, ⟨⟨vfu, vfs, vfh, vfa⟩, vfn⟩⟩ A' n' c' = .agg #[.int .i64 vst, .int .i64 vsh, .int .i64 vsd, .int .i64 vsp, .int .i64 veu, .int .i64 ves, .int .i64 veh, .int .i64 vea, .int .i64 ven, .int .i64 vfu, .int .i64 vfs, .int .i64 vfh, .int .i64 vfa, .int .i64 vfn, .slice A' n' c']) := rfl
        rw [HQ.out]
        have hsw := hb.size
        have Y10 := Lib.hid (blk_on hb Y9.out)
        have X10 := Lib.hid (blk_on hb X9.out)
        have R10 := Lib.hid (blk_on hb R9.out)
        have G10 := Lib.hid (blk_on hb G9.out)
        have K10 := Lib.hid (K9.out.trans (hb.mono K9.out.size))
        clear hb Y9 X9 R9 G9 K9
        obtain ⟨V22, hV22⟩ : ∃ V, w21.alloc (.cells #[.int .i64 0, .int .i64 0, .int .i64 0, .int .i64 0, .int .i64 0, .int .i64 0, .int .i64 0, .int .i64 0, .int .i64 0, .int .i64 0, .int .i64 0, .int .i64 0, .int .i64 0, .int .i64 0, .slice none 0 0] 30) = V := ⟨_, rfl⟩
        have ltV22Y : w.heap.size < w21.heap.size := blk_in Y10.out
        have ltV22X : w.heap.size + 1 < w21.heap.size := blk_in X10.out
        have ltV22R : w.heap.size + 1 + 1 < w21.heap.size := blk_in R10.out
        have ltV22G : gr < w21.heap.size := blk_in G10.out
        have Y11 : Hid (V22.heap[w.heap.size]? = some (.cells #[.int .i64 st, .int .i64 sh, .int .i64 sd, .int .i64 sp, .int .i64 eu, .int .i64 es, .int .i64 eh, .int .i64 ea, .int .i64 en, .int .i64 fu, .int .i64 fs, .int .i64 fh, .int .i64 fa, .int .i64 fn, .slice A n cap] 30)) := by rw [← hV22]; exact alloc_blk Y10.out
        have X11 : Hid (V22.heap[w.heap.size + 1]? = some (.cells #[.int .i64 xu, .int .i64 xs, .int .i64 xh, .int .i64 xa, .int .i64 xn, .string xt, .bool xp] 32)) := by rw [← hV22]; exact alloc_blk X10.out
        have R11 : Hid (V22.heap[w.heap.size + 1 + 1]? = some (.cells #[.int .i64 0, .int .i64 0, .int .i64 0, .int .i64 0, .int .i64 0, .int .i64 0, .int .i64 0, .int .i64 0, .int .i64 0, .int .i64 0, .int .i64 0, .int .i64 0, .int .i64 0, .int .i64 0, .slice none 0 0] 30)) := by rw [← hV22]; exact alloc_blk R10.out
        have G11 : Hid (V22.heap[gr]? = some (.cells #[.iface 85 (.agg #[.int .i64 eu, .int .i64 es, .int .i64 eh, .int .i64 ea, .int .i64 en]), .iface 86 (.agg #[.int .i64 fu, .int .i64 fs, .int .i64 fh, .int .i64 fa, .int .i64 fn])] 61)) := by rw [← hV22]; exact alloc_blk G10.out
        have hb : Below w21.heap.size w21 V22 := by rw [← hV22]; exact (Below.refl _ w21).alloc (Nat.le_refl _) _
        have K11 := Lib.hid (K10.out.trans (hb.mono K10.out.size))
        have N11 : Hid (V22.heap[w21.heap.size]? = some (.cells #[.int .i64 0, .int .i64 0, .int .i64 0, .int .i64 0, .int .i64 0, .int .i64 0, .int .i64 0, .int .i64 0, .int .i64 0, .int .i64 0, .int .i64 0, .int .i64 0, .int .i64 0, .int .i64 0, .slice none 0 0] 30)) := by rw [← hV22]; exact heap1 w21 _
        have lbV22 : w.heap.size ≤ w21.heap.size := K10.out.size
        clear hb Y10 X10 R10 G10 K10
        have hal : ∀ g, g < w21.heap.size → V22.heap[g]? = w21.heap[g]? := fun g hg => by rw [← hV22]; exact ((Below.refl _ w21).alloc (Nat.le_refl _) _).block g hg
        have Y12 : Hid ((V22.setRow w21.heap.size #[.int .i64 vst, .int .i64 vsh, .int .i64 vsd, .int .i64 vsp, .int .i64 veu, .int .i64 ves, .int .i64 veh, .int .i64 vea, .int .i64 ven, .int .i64 vfu, .int .i64 vfs, .int .i64 vfh, .int .i64 vfa, .int .i64 vfn, .slice A' n' c']).heap[w.heap.size]? = some (.cells #[.int .i64 st, .int .i64 sh, .int .i64 sd, .int .i64 sp, .int .i64 eu, .int .i64 es, .int .i64 eh, .int .i64 ea, .int .i64 en, .int .i64 fu, .int .i64 fs, .int .i64 fh, .int .i64 fa, .int .i64 fn, .slice A n cap] 30)) := (setRow_other _ _ _ _ (by omega)).trans Y11.out
        have X12 : Hid ((V22.setRow w21.heap.size #[.int .i64 vst, .int .i64 vsh, .int .i64 vsd, .int .i64 vsp, .int .i64 veu, .int .i64 ves, .int .i64 veh, .int .i64 vea, .int .i64 ven, .int .i64 vfu, .int .i64 vfs, .int .i64 vfh, .int .i64 vfa, .int .i64 vfn, .slice A' n' c']).heap[w.heap.size + 1]? = some (.cells #[.int .i64 xu, .int .i64 xs, .int .i64 xh, .int .i64 xa, .int .i64 xn, .string xt, .bool xp] 32)) := (setRow_other _ _ _ _ (by omega)).trans X11.out
        have R12 : Hid ((V22.setRow w21.heap.size #[.int .i64 vst, .int .i64 vsh, .int .i64 vsd, .int .i64 vsp, .int .i64 veu, .int .i64 ves, .int .i64 veh, .int .i64 vea, .int .i64 ven, .int .i64 vfu, .int .i64 vfs, .int .i64 vfh, .int .i64 vfa, .int .i64 vfn, .slice A' n' c']).heap[w.heap.size + 1 + 1]? = some (.cells #[.int .i64 0, .int .i64 0, .int .i64 0, .int .i64 0, .int .i64 0, .int .i64 0, .int .i64 0, .int .i64 0, .int .i64 0, .int .i64 0, .int .i64 0, .int .i64 0, .int .i64 0, .int .i64 0, .slice none 0 0] 30)) := (setRow_other _ _ _ _ (by omega)).trans R11.out
        have G12 : Hid ((V22.setRow w21.heap.size #[.int .i64 vst, .int .i64 vsh, .int .i64 vsd, .int .i64 vsp, .int .i64 veu, .int .i64 ves, .int .i64 veh, .int .i64 vea, .int .i64 ven, .int .i64 vfu, .int .i64 vfs, .int .i64 vfh, .int .i64 vfa, .int .i64 vfn, .slice A' n' c']).heap[gr]? = some (.cells #[.iface 85 (.agg #[.int .i64 eu, .int .i64 es, .int .i64 eh, .int .i64 ea, .int .i64 en]), .iface 86 (.agg #[.int .i64 fu, .int .i64 fs, .int .i64 fh, .int .i64 fa, .int .i64 fn])] 61)) := (setRow_other _ _ _ _ (by omega)).trans G11.out
        have N12 : Hid ((V22.setRow w21.heap.size #[.int .i64 vst, .int .i64 vsh, .int .i64 vsd, .int .i64 vsp, .int .i64 veu, .int .i64 ves, .int .i64 veh, .int .i64 vea, .int .i64 ven, .int .i64 vfu, .int .i64 vfs, .int .i64 vfh, .int .i64 vfa, .int .i64 vfn, .slice A' n' c']).heap[w21.heap.size]? = some (.cells #[.int .i64 vst, .int .i64 vsh, .int .i64 vsd, .int .i64 vsp, .int .i64 veu, .int .i64 ves, .int .i64 veh, .int .i64 vea, .int .i64 ven, .int .i64 vfu, .int .i64 vfs, .int .i64 vfh, .int .i64 vfa, .int .i64 vfn, .slice A' n' c'] 30)) := setRow_heap _ _ _ _ _ _ N11.out
        have K12 : Hid (Below w.heap.size w (V22.setRow w21.heap.size #[.int .i64 vst, .int .i64 vsh, .int .i64 vsd, .int .i64 vsp, .int .i64 veu, .int .i64 ves, .int .i64 veh, .int .i64 vea, .int .i64 ven, .int .i64 vfu, .int .i64 vfs, .int .i64 vfh, .int .i64 vfa, .int .i64 vfn, .slice A' n' c'])) := below_setRow K11.out (by omega) _
        have HL : Hid (yE ≠ 0 → hc = yE ∧ hs = ⟨vst, vsh, vsd, vsp, ⟨⟨veu, ves, veh, vea⟩, ven⟩, ⟨⟨vfu, vfs, vfh, vfa⟩, vfn⟩⟩ ∧ LogOut (V22.setRow w21.heap.size #[.int .i64 vst, .int .i64 vsh, .int .i64 vsd, .int .i64 vsp, .int .i64 veu, .int .i64 ves, .int .i64 veh, .int .i64 vea, .int .i64 ven, .int .i64 vfu, .int .i64 vfs, .int .i64 vfh, .int .i64 vfa, .int .i64 vfn, .slice A' n' c']) wr.heap.size A' n' c' ol) := fun hq => ⟨(hL hq).1, (hL hq).2.1, (hL hq).2.2.to (Nat.le_refl _) (fun g h1 h2 => (setRow_other _ _ _ _ (by omega)).trans (hal g h2))⟩
        clear hL hal
        by_cases hy0 : yE = 0
        ·
          have hy1 : (yE != 0) = false := by rw [hy0]; rfl
          have HY0 := Lib.hid hy0
          clear hy0 HL HQ
          go_wp2_with (refine wpList_store_row rfl 30 _ _ rfl (w21.heap.size) #[.int .i64 vst, .int .i64 vsh, .int .i64 vsd, .int .i64 vsp, .int .i64 veu, .int .i64 ves, .int .i64 veh, .int .i64 vea, .int .i64 ven, .int .i64 vfu, .int .i64 vfs, .int .i64 vfh, .int .i64 vfa, .int .i64 vfn, .slice A' n' c'] rfl rfl 30 _ N11.out (by kernel_rfl) rfl (by simp [Value.oneCell']) ?_)
          go_roundw
          case rel => exact ⟨.inr (.inl ⟨by go_num, HY0.out⟩), Y12.out, X12.out, R12.out, G12.out, K12.out⟩
          case measure => simp [intOf]
        ·
          have hy1 : (yE != 0) = true := by simpa using hy0
          have HL1 := Lib.hid (HL.out hy0)
          clear HL hy0

          go_wp2_with (first | (refine wpList_store_row rfl 30 _ _ rfl (w21.heap.size) #[.int .i64 vst, .int .i64 vsh, .int .i64 vsd, .int .i64 vsp, .int .i64 veu, .int .i64 ves, .int .i64 veh, .int .i64 vea, .int .i64 ven, .int .i64 vfu, .int .i64 vfs, .int .i64 vfh, .int .i64 vfa, .int .i64 vfn, .slice A' n' c'] rfl rfl 30 _ N11.out (by kernel_rfl) rfl (by simp [Value.oneCell']) ?_) | (refine wpList_load_row rfl 30 _ rfl (w21.heap.size) rfl 30 _ (0, 0) _ N12.out Tryz.underlying30 rfl (by kernel_rfl) ?_) | (refine wpList_store_row rfl 30 _ _ rfl (w.heap.size + 1 + 1) #[.int .i64 vst, .int .i64 vsh, .int .i64 vsd, .int .i64 vsp, .int .i64 veu, .int .i64 ves, .int .i64 veh, .int .i64 vea, .int .i64 ven, .int .i64 vfu, .int .i64 vfs, .int .i64 vfh, .int .i64 vfa, .int .i64 vfn, .slice A' n' c'] rfl rfl 30 _ R12.out (by kernel_rfl) rfl (by simp [Value.oneCell']) ?_))
          exact row_ret2 (r := w.heap.size + 1 + 1) (cs := #[.int .i64 vst, .int .i64 vsh, .int .i64 vsd, .int .i64 vsp, .int .i64 veu, .int .i64 ves, .int .i64 veh, .int .i64 vea, .int .i64 ven, .int .i64 vfu, .int .i64 vfs, .int .i64 vfh, .int .i64 vfa, .int .i64 vfn, .slice A' n' c']) rfl rfl rfl (setRow_heap _ _ _ _ _ _ R12.out) Tryz.underlying30 rfl (by kernel_rfl) rfl ⟨A', n', c', by rw [HL1.out.1, HL1.out.2.1]; rfl, HL1.out.2.2.to gs (fun g h1 h2 => setRow_other _ _ _ _ (by omega)), below_setRow K12.out (by omega) _⟩
      ·
        have gc := blk_cell G9.out 1
        have gn := blk_in R9.out
        have gs := K9.out.size
        have ltG9 := blk_in G9.out
        go_wp2_with (first | (refine wpList_load_row rfl 30 _ rfl (w.heap.size) rfl 30 _ (0, 0) _ Y9.out Tryz.underlying30 rfl (by kernel_rfl) ?_) | (refine wpList_load_row rfl 32 _ rfl (w.heap.size + 1) rfl 32 _ (0, 0) _ X9.out Tryz.underlying32 rfl (by kernel_rfl) ?_))
        clear gc
        refine (cF.out _ ((E.out.below K9.out).mono K9.out.size) (HTB.out.on K9.out)).mono ?_
        rintro e w21 ⟨⟨vst, vsh, vsd, vsp, ⟨⟨veu, ves, veh, vea⟩, ven⟩, ⟨⟨vfu, vfs, vfh, vfa⟩, vfn⟩⟩, A', n', c', rfl, hL, hb⟩
        have HQ : Hid (SeatV.val ⟨vst, vsh, vsd, vsp, ⟨⟨veu, ves, veh, vea⟩, ven⟩, ⟨⟨vfu, vfs, vfh, vfa⟩, vfn⟩⟩ A' n' c' = .agg #[.int .i64 vst, .int .i64 vsh, .int .i64 vsd, .int .i64 vsp, .int .i64 veu, .int .i64 ves, .int .i64 veh, .int .i64 vea, .int .i64 ven, .int .i64 vfu, .int .i64 vfs, .int .i64 vfh, .int .i64 vfa, .int .i64 vfn, .slice A' n' c']) := rfl
        rw [HQ.out]
        have hsw := hb.size
        have Y10 := Lib.hid (blk_on hb Y9.out)
        have X10 := Lib.hid (blk_on hb X9.out)
        have R10 := Lib.hid (blk_on hb R9.out)
        have G10 := Lib.hid (blk_on hb G9.out)
        have K10 := Lib.hid (K9.out.trans (hb.mono K9.out.size))
        clear hb Y9 X9 R9 G9 K9
        obtain ⟨V22, hV22⟩ : ∃ V, w21.alloc (.cells #[.int .i64 0, .int .i64 0, .int .i64 0, .int .i64 0, .int .i64 0, .int .i64 0, .int .i64 0, .int .i64 0, .int .i64 0, .int .i64 0, .int .i64 0, .int .i64 0, .int .i64 0, .int .i64 0, .slice none 0 0] 30) = V := ⟨_, rfl⟩
        have ltV22Y : w.heap.size < w21.heap.size := blk_in Y10.out
        have ltV22X : w.heap.size + 1 < w21.heap.size := blk_in X10.out
        have ltV22R : w.heap.size + 1 + 1 < w21.heap.size := blk_in R10.out
        have ltV22G : gr < w21.heap.size := blk_in G10.out
        have Y11 : Hid (V22.heap[w.heap.size]? = some (.cells #[.int .i64 st, .int .i64 sh, .int .i64 sd, .int .i64 sp, .int .i64 eu, .int .i64 es, .int .i64 eh, .int .i64 ea, .int .i64 en, .int .i64 fu, .int .i64 fs, .int .i64 fh, .int .i64 fa, .int .i64 fn, .slice A n cap] 30)) := by rw [← hV22]; exact alloc_blk Y10.out
        have X11 : Hid (V22.heap[w.heap.size + 1]? = some (.cells #[.int .i64 xu, .int .i64 xs, .int .i64 xh, .int .i64 xa, .int .i64 xn, .string xt, .bool xp] 32)) := by rw [← hV22]; exact alloc_blk X10.out
        have R11 : Hid (V22.heap[w.heap.size + 1 + 1]? = some (.cells #[.int .i64 0, .int .i64 0, .int .i64 0, .int .i64 0, .int .i64 0, .int .i64 0, .int .i64 0, .int .i64 0, .int .i64 0, .int .i64 0, .int .i64 0, .int .i64 0, .int .i64 0, .int .i64 0, .slice none 0 0] 30)) := by rw [← hV22]; exact alloc_blk R10.out
        have G11 : Hid (V22.heap[gr]? = some (.cells #[.iface 85 (.agg #[.int .i64 eu, .int .i64 es, .int .i64 eh, .int .i64 ea, .int .i64 en]), .iface 86 (.agg #[.int .i64 fu, .int .i64 fs, .int .i64 fh, .int .i64 fa, .int .i64 fn])] 61)) := by rw [← hV22]; exact alloc_blk G10.out
        have hb : Below w21.heap.size w21 V22 := by rw [← hV22]; exact (Below.refl _ w21).alloc (Nat.le_refl _) _
        have K11 := Lib.hid (K10.out.trans (hb.mono K10.out.size))
        have N11 : Hid (V22.heap[w21.heap.size]? = some (.cells #[.int .i64 0, .int .i64 0, .int .i64 0, .int .i64 0, .int .i64 0, .int .i64 0, .int .i64 0, .int .i64 0, .int .i64 0, .int .i64 0, .int .i64 0, .int .i64 0, .int .i64 0, .int .i64 0, .slice none 0 0] 30)) := by rw [← hV22]; exact heap1 w21 _
        have lbV22 : w.heap.size ≤ w21.heap.size := K10.out.size
        clear hb Y10 X10 R10 G10 K10
        have hal : ∀ g, g < w21.heap.size → V22.heap[g]? = w21.heap[g]? := fun g hg => by rw [← hV22]; exact ((Below.refl _ w21).alloc (Nat.le_refl _) _).block g hg
        have Y12 : Hid ((V22.setRow w21.heap.size #[.int .i64 vst, .int .i64 vsh, .int .i64 vsd, .int .i64 vsp, .int .i64 veu, .int .i64 ves, .int .i64 veh, .int .i64 vea, .int .i64 ven, .int .i64 vfu, .int .i64 vfs, .int .i64 vfh, .int .i64 vfa, .int .i64 vfn, .slice A' n' c']).heap[w.heap.size]? = some (.cells #[.int .i64 st, .int .i64 sh, .int .i64 sd, .int .i64 sp, .int .i64 eu, .int .i64 es, .int .i64 eh, .int .i64 ea, .int .i64 en, .int .i64 fu, .int .i64 fs, .int .i64 fh, .int .i64 fa, .int .i64 fn, .slice A n cap] 30)) := (setRow_other _ _ _ _ (by omega)).trans Y11.out
        have X12 : Hid ((V22.setRow w21.heap.size #[.int .i64 vst, .int .i64 vsh, .int .i64 vsd, .int .i64 vsp, .int .i64 veu, .int .i64 ves, .int .i64 veh, .int .i64 vea, .int .i64 ven, .int .i64 vfu, .int .i64 vfs, .int .i64 vfh, .int .i64 vfa, .int .i64 vfn, .slice A' n' c']).heap[w.heap.size + 1]? = some (.cells #[.int .i64 xu, .int .i64 xs, .int .i64 xh, .int .i64 xa, .int .i64 xn, .string xt, .bool xp] 32)) := (setRow_other _ _ _ _ (by omega)).trans X11.out
        have R12 : Hid ((V22.setRow w21.heap.size #[.int .i64 vst, .int .i64 vsh, .int .i64 vsd, .int .i64 vsp, .int .i64 veu, .int .i64 ves, .int .i64 veh, .int .i64 vea, .int .i64 ven, .int .i64 vfu, .int .i64 vfs, .int .i64 vfh, .int .i64 vfa, .int .i64 vfn, .slice A' n' c']).heap[w.heap.size + 1 + 1]? = some (.cells #[.int .i64 0, .int .i64 0, .int .i64 0, .int .i64 0, .int .i64 0, .int .i64 0, .int .i64 0, .int .i64 0, .int .i64 0, .int .i64 0, .int .i64 0, .int .i64 0, .int .i64 0, .int .i64 0, .slice none 0 0] 30)) := (setRow_other _ _ _ _ (by omega)).trans R11.out
        have G12 : Hid ((V22.setRow w21.heap.size #[.int .i64 vst, .int .i64 vsh, .int .i64 vsd, .int .i64 vsp, .int .i64 veu, .int .i64 ves, .int .i64 veh, .int .i64 vea, .int .i64 ven, .int .i64 vfu, .int .i64 vfs, .int .i64 vfh, .int .i64 vfa, .int .i64 vfn, .slice A' n' c']).heap[gr]? = some (.cells #[.iface 85 (.agg #[.int .i64 eu, .int .i64 es, .int .i64 eh, .int .i64 ea, .int .i64 en]), .iface 86 (.agg #[.int .i64 fu, .int .i64 fs, .int .i64 fh, .int .i64 fa, .int .i64 fn])] 61)) := (setRow_other _ _ _ _ (by omega)).trans G11.out
        have N12 : Hid ((V22.setRow w21.heap.size #[.int .i64 vst, .int .i64 vsh, .int .i64 vsd, .int .i64 vsp, .int .i64 veu, .int .i64 ves, .int .i64 veh, .int .i64 vea, .int .i64 ven, .int .i64 vfu, .int .i64 vfs, .int .i64 vfh, .int .i64 vfa, .int .i64 vfn, .slice A' n' c']).heap[w21.heap.size]? = some (.cells #[.int .i64 vst, .int .i64 vsh, .int .i64 vsd, .int .i64 vsp, .int .i64 veu, .int .i64 ves, .int .i64 veh, .int .i64 vea, .int .i64 ven, .int .i64 vfu, .int .i64 vfs, .int .i64 vfh, .int .i64 vfa, .int .i64 vfn, .slice A' n' c'] 30)) := setRow_heap _ _ _ _ _ _ N11.out
        have K12 : Hid (Below w.heap.size w (V22.setRow w21.heap.size #[.int .i64 vst, .int .i64 vsh, .int .i64 vsd, .int .i64 vsp, .int .i64 veu, .int .i64 ves, .int .i64 veh, .int .i64 vea, .int .i64 ven, .int .i64 vfu, .int .i64 vfs, .int .i64 vfh, .int .i64 vfa, .int .i64 vfn, .slice A' n' c'])) := below_setRow K11.out (by omega) _
        have HL : Hid (yF ≠ 0 → hc = yF ∧ hs = ⟨vst, vsh, vsd, vsp, ⟨⟨veu, ves, veh, vea⟩, ven⟩, ⟨⟨vfu, vfs, vfh, vfa⟩, vfn⟩⟩ ∧ LogOut (V22.setRow w21.heap.size #[.int .i64 vst, .int .i64 vsh, .int .i64 vsd, .int .i64 vsp, .int .i64 veu, .int .i64 ves, .int .i64 veh, .int .i64 vea, .int .i64 ven, .int .i64 vfu, .int .i64 vfs, .int .i64 vfh, .int .i64 vfa, .int .i64 vfn, .slice A' n' c']) wr.heap.size A' n' c' ol) := fun hq => ⟨(hL hq).1, (hL hq).2.1, (hL hq).2.2.to (Nat.le_refl _) (fun g h1 h2 => (setRow_other _ _ _ _ (by omega)).trans (hal g h2))⟩
        clear hL hal
        by_cases hy0 : yF = 0
        ·
          have hy1 : (yF != 0) = false := by rw [hy0]; rfl
          have HY0 := Lib.hid hy0
          clear hy0 HL HQ
          go_wp2_with (refine wpList_store_row rfl 30 _ _ rfl (w21.heap.size) #[.int .i64 vst, .int .i64 vsh, .int .i64 vsd, .int .i64 vsp, .int .i64 veu, .int .i64 ves, .int .i64 veh, .int .i64 vea, .int .i64 ven, .int .i64 vfu, .int .i64 vfs, .int .i64 vfh, .int .i64 vfa, .int .i64 vfn, .slice A' n' c'] rfl rfl 30 _ N11.out (by kernel_rfl) rfl (by simp [Value.oneCell']) ?_)
          go_roundw
          case rel => exact ⟨.inr (.inr ⟨by go_num, hyE, HY0.out⟩), Y12.out, X12.out, R12.out, G12.out, K12.out⟩
          case measure => simp [intOf]
        ·
          have hy1 : (yF != 0) = true := by simpa using hy0
          have HL1 := Lib.hid (HL.out hy0)
          clear HL hy0

          go_wp2_with (first | (refine wpList_store_row rfl 30 _ _ rfl (w21.heap.size) #[.int .i64 vst, .int .i64 vsh, .int .i64 vsd, .int .i64 vsp, .int .i64 veu, .int .i64 ves, .int .i64 veh, .int .i64 vea, .int .i64 ven, .int .i64 vfu, .int .i64 vfs, .int .i64 vfh, .int .i64 vfa, .int .i64 vfn, .slice A' n' c'] rfl rfl 30 _ N11.out (by kernel_rfl) rfl (by simp [Value.oneCell']) ?_) | (refine wpList_load_row rfl 30 _ rfl (w21.heap.size) rfl 30 _ (0, 0) _ N12.out Tryz.underlying30 rfl (by kernel_rfl) ?_) | (refine wpList_store_row rfl 30 _ _ rfl (w.heap.size + 1 + 1) #[.int .i64 vst, .int .i64 vsh, .int .i64 vsd, .int .i64 vsp, .int .i64 veu, .int .i64 ves, .int .i64 veh, .int .i64 vea, .int .i64 ven, .int .i64 vfu, .int .i64 vfs, .int .i64 vfh, .int .i64 vfa, .int .i64 vfn, .slice A' n' c'] rfl rfl 30 _ R12.out (by kernel_rfl) rfl (by simp [Value.oneCell']) ?_))
          exact row_ret2 (r := w.heap.size + 1 + 1) (cs := #[.int .i64 vst, .int .i64 vsh, .int .i64 vsd, .int .i64 vsp, .int .i64 veu, .int .i64 ves, .int .i64 veh, .int .i64 vea, .int .i64 ven, .int .i64 vfu, .int .i64 vfs, .int .i64 vfh, .int .i64 vfa, .int .i64 vfn, .slice A' n' c']) rfl rfl rfl (setRow_heap _ _ _ _ _ _ R12.out) Tryz.underlying30 rfl (by kernel_rfl) rfl ⟨A', n', c', by rw [HL1.out.1, HL1.out.2.1]; rfl, HL1.out.2.2.to gs (fun g h1 h2 => setRow_other _ _ _ _ (by omega)), below_setRow K12.out (by omega) _⟩
      ·
        obtain ⟨e1, e2, e3⟩ := HN1.out hyE hyF
        have H1 := Lib.hid e1
        have H2 := Lib.hid e2
        have H3 := Lib.hid e3
        clear e1 e2 e3 hyE hyF HN1
        go_wp2_with (refine wpList_load_row rfl 30 _ rfl (w.heap.size) rfl 30 _ (0, 0) _ Y9.out Tryz.underlying30 rfl (by kernel_rfl) ?_)
        refine (cCC.out _ ((E.out.below K9.out).mono K9.out.size)).mono ?_
        rintro e w21 ⟨g, cb, rfl, hM, hb⟩
        have hgb := hM.base
        have hkk := K9.out.size
        have gn := blk_in R9.out
        have Y10 := Lib.hid (blk_on hb Y9.out)
        have X10 := Lib.hid (blk_on hb X9.out)
        have R10 := Lib.hid (blk_on hb R9.out)
        have G10 := Lib.hid (blk_on hb G9.out)
        have K10 := Lib.hid (K9.out.trans (hb.mono K9.out.size))
        clear hb Y9 X9 R9 G9 K9
        have HC : Hid (SeatV.val ⟨st, sh, sd, sp, ⟨⟨eu, es, eh, ea⟩, en⟩, ⟨⟨fu, fs, fh, fa⟩, fn⟩⟩ (some ⟨g, 0, none⟩) n cb = .agg #[.int .i64 st, .int .i64 sh, .int .i64 sd, .int .i64 sp, .int .i64 eu, .int .i64 es, .int .i64 eh, .int .i64 ea, .int .i64 en, .int .i64 fu, .int .i64 fs, .int .i64 fh, .int .i64 fa, .int .i64 fn, .slice (some ⟨g, 0, none⟩) n cb]) := rfl
        rw [HC.out]
        have M0 := Lib.hid hM
        clear hM
        go_wp2_with (refine wpList_store_row rfl 30 _ _ rfl (w.heap.size + 1 + 1) #[.int .i64 st, .int .i64 sh, .int .i64 sd, .int .i64 sp, .int .i64 eu, .int .i64 es, .int .i64 eh, .int .i64 ea, .int .i64 en, .int .i64 fu, .int .i64 fs, .int .i64 fh, .int .i64 fa, .int .i64 fn, .slice (some ⟨g, 0, none⟩) n cb] rfl rfl 30 _ R10.out (by kernel_rfl) rfl (by simp [Value.oneCell']) ?_)
        exact row_ret2 (r := w.heap.size + 1 + 1) (cs := #[.int .i64 st, .int .i64 sh, .int .i64 sd, .int .i64 sp, .int .i64 eu, .int .i64 es, .int .i64 eh, .int .i64 ea, .int .i64 en, .int .i64 fu, .int .i64 fs, .int .i64 fh, .int .i64 fa, .int .i64 fn, .slice (some ⟨g, 0, none⟩) n cb]) rfl rfl rfl (setRow_heap _ _ _ _ _ _ R10.out) Tryz.underlying30 rfl (by kernel_rfl) rfl ⟨some ⟨g, 0, none⟩, n, cb, by rw [H1.out, H2.out]; rfl, .inr ⟨g, rfl, by rw [H3.out]; exact hln.symm, by rw [H3.out]; exact (M0.out.heap (setRow_other _ _ _ _ (by omega))).mono (by omega)⟩, below_setRow K10.out (by omega) _⟩

end Go.Proofs.YtchdmmlkgglmcaaGreatDoor.Tx

/-
  Plain facts: how the program asks which seats are right. No conditions.
  What IsDraw of the program answers: it turns nothing. No conditions.
  What the functions of chapter 3 of the program answer. No conditions.
  What the functions of chapter 4 of the program answer. No conditions.
  What the small functions of chapter 5 of the program answer (a row with its key embedded: what is promoted). No conditions.
  What SeatOk of the program answers. No condition.
  What copied of the program makes of a seat: its log is the call's own. Condition: at most 1048576 words.
  What drawsOf of the program makes (a copy of the list in new memory), and what slices.SortFunc does with it by draw.compare: the same numbers, rising. Condition: the list has at most 1048576 numbers.
  What the method value (draws).neighbours of the program hands out: each number of the list with the one behind it, in order, till a round says no. Condition: the list has at most 1048576 numbers.
  A range over a method value (an iterator with its receiver bound to it) whose body changes nothing as long as it goes on, and stores one value into one cell where it returns. No condition but those of the theorem.
  What IsDraw, NextDraw and AllUnlike of the program answer. Condition: a list has at most 1048576 numbers.
  What the program's small functions on the map of places do: placesOf, has, isFull, forget, told. Conditions: the list has at most 1048576 numbers, each an int64; told: no two of the list are alike.
  What SeenIn and MemoryOk of the program answer. Conditions: the list has at most 1048576 numbers, each an int64.
  What MemoryOk of the program answers, and what its recallOf makes. Conditions: the list has at most 1048576 numbers, each an int64.
  What InnOk of the program answers. Conditions: at most 1048576 seats, and as many draws in the memory.
  What innWith and copied of the program make of an inn: one like it, in memory of the call's own. Conditions: at most 1048576 numbers in the memory, as many seats, and of each as many words.
  What NewMemory, MayHear and Noted of the program answer. Conditions: the list has at most 1048576 numbers, each an int64; so is the greeting's number.
  What Fallen of the program answers. Conditions: at most 1048576 numbers in the memory, as many seats, and of each as many words.
-/
import Derived.Test.YtioogmeghmeelaaGreatSeat0
import Derived.WalkKit
import Derived.Lib.Hide
import Derived.Test.YtioogmeghmeelaaGreatDraws0
import Derived.Test.YtioogmeghmeelaaGreatIn
import Derived.Test.YtioogmeghmeelaaGreatProg
import Derived.Deep.RegionWith
import Derived.Deep.RegionHeld3
import Derived.BigQuiet
import Derived.Deep.QuietTactic
import Derived.Test.YtioogmeghmeelaaGreatKey
import Derived.Test.YtioogmeghmeelaaGreatBlk
import Derived.Test.YtioogmeghmeelaaGreatEqV
import Derived.Test.YtioogmeghmeelaaGreatBox
import Derived.Test.YtioogmeghmeelaaGreatRow
import Derived.Test.YtioogmeghmeelaaGreatSeat
import Derived.Test.YtioogmeghmeelaaGreatSeat4
import Derived.Test.YtioogmeghmeelaaGreatHears
import Derived.Deep.OwnRows
import Derived.ProofKit
import Derived.Lib.OwnBridge
import Derived.Test.YtioogmeghmeelaaGreatNums
import Derived.Test.YtioogmeghmeelaaGreatShelf
import Derived.RangeFuncNested
import Derived.RangeFuncBound
import Derived.RangeFuncCalls
import Derived.RangeFuncLeaves
import Derived.Shelf.Abstract
import Derived.Shelf.RegionOpen
import Derived.OwnWalkIn
import Derived.TacticsInMore
import Derived.LoopNIn
import Derived.LoopIn
import Derived.Deep.Draws
import Derived.Test.YtioogmeghmeelaaGreatDraw2
import Derived.Maps.OwnSet
import Derived.Maps.RangeWalk
import Derived.Test.YtioogmeghmeelaaGreatMem0
import Derived.Test.YtioogmeghmeelaaGreatTime
import Derived.Test.YtioogmeghmeelaaGreatMem6
import Derived.Test.YtioogmeghmeelaaGreatInn2
import Derived.Test.YtioogmeghmeelaaGreatInn4
import Derived.Test.YtioogmeghmeelaaGreatRegionS
import Derived.Test.YtioogmeghmeelaaGreatRegionR
import Derived.Test.YtioogmeghmeelaaGreatInn8
import Derived.WalkLawsBesides
import Derived.Test.YtioogmeghmeelaaGreatInnFacts
namespace Go.Proofs.YtioogmeghmeelaaGreat.Tx

/-- As the program asks: its secret, its row behind the answer, its row ahead of it. -/
def pkB (s : SeatV) : Bool := if s.p == 1 then s.f.k.s == 0 else if s.p == 2 then s.f.k.s != 0 else if s.p == 3 then s.f.k.s != 0 else false
def fthB (s : SeatV) : Bool := rowOkB s.f && s.f.k.same (forthK s.f.k.s s.h s.d)
def erlB (s : SeatV) : Bool := if s.st == 1 && s.p == 3 then rowOkB s.e && s.e.k.same (earlyK s.f.k.s s.h) else s.e.isZ
theorem isZ_iff {r : RowV} (h : r.isZ = true) : r = .zero := by
  obtain ⟨⟨u, s, h1, a⟩, n⟩ := r
  simp only [RowV.isZ, Bool.and_eq_true, beq_iff_eq] at h
  obtain ⟨rfl, rfl, rfl, rfl, rfl⟩ := h
  rfl
theorem row_zero_ok : rowOkB .zero = true := by decide
theorem forth_nz {k : KeyV} {h d : Int} (hh : isDrawB h = true) (hd : isDrawB d = true) (hk : k.same (forthK k.s h d) = true) : k.same .zero = false := by
  have e := KeyV.same_iff.1 hk
  cases hb : keyOkB ⟨4, k.s, h, d⟩ with
  | true =>
    rw [forthK, rightK_yes hb] at e
    refine KeyV.same_not fun e0 => ?_
    have h1 := congrArg KeyV.u (e.symm.trans e0)
    simp [KeyV.zero] at h1
  | false =>
    rw [forthK, rightK_no hb] at e
    rw [e] at hb
    simp [keyOkB, KeyV.zero, inB, hh, hd] at hb
theorem pick_sec (p s : Int) : (inB p 1 3 && ((s == 0) == (p == 1))) = (if p == 1 then s == 0 else if p == 2 then s != 0 else if p == 3 then s != 0 else false) := by
  by_cases h1 : p = 1
  · subst h1; cases h : s == 0 <;> simp [inB]
  by_cases h2 : p = 2
  · subst h2; cases h : s == 0 <;> simp [inB, h, bne]
  by_cases h3 : p = 3
  · subst h3; cases h : s == 0 <;> simp [inB, h, bne]
  rw [inB_no (by omega), bne_int h1, bne_int h2, bne_int h3]; rfl
theorem seat_prog (s : SeatV) (n : Nat) : seatOkB s n = ((s.st == 1 || s.st == 2) && (isDrawB s.h && (isDrawB s.d && (pkB s && (fthB s && (erlB s && decide (n ≤ 60))))))) := by
  have hs := pick_sec s.p s.f.k.s
  have hz := fun hh hd hk => forth_nz (k := s.f.k) (h := s.h) (d := s.d) hh hd hk
  have he : s.e.isZ = true → rowOkB s.e = true := fun h => by rw [isZ_iff h]; exact row_zero_ok
  unfold seatOkB fthB erlB
  rw [show pkB s = _ from hs.symm]
  generalize (s.st == 1 || s.st == 2) = a0
  generalize isDrawB s.h = a1 at *
  generalize isDrawB s.d = a2 at *
  generalize inB s.p 1 3 = a3
  generalize rowOkB s.e = a4 at *
  generalize rowOkB s.f = a5
  generalize decide (n ≤ 60) = a6
  generalize KeyV.same s.f.k .zero = a7 at *
  generalize KeyV.same s.f.k (forthK s.f.k.s s.h s.d) = a8 at *
  generalize ((s.f.k.s == 0) == (s.p == 1)) = a9
  generalize KeyV.same s.e.k (earlyK s.f.k.s s.h) = b0
  generalize RowV.isZ s.e = b1 at *
  generalize (s.st == 1 && s.p == 3) = b2
  clear hs
  cases a1 <;> cases a2 <;> simp
  cases a8 <;> simp
  have h7 : a7 = false := hz rfl rfl rfl
  subst h7
  cases b2
  · cases b1
    · simp
    · have h4 : a4 = true := he rfl
      subst h4
      cases a0 <;> cases a3 <;> cases a5 <;> cases a6 <;> cases a9 <;> rfl
  · cases a0 <;> cases a3 <;> cases a4 <;> cases a5 <;> cases a6 <;> cases a9 <;> cases b0 <;> rfl
/-- A new seat that is right was asked for with what goes together. -/
theorem new_goes {h d p s : Int} (e : seatOkB (newSeatRaw h d p s) 0 = true) : goesP p s = true := by
  rw [seat_prog] at e
  simp only [Bool.and_eq_true] at e
  obtain ⟨_, e1, e2, e3, e4, _⟩ := e
  replace e1 : isDrawB h = true := e1
  replace e2 : isDrawB d = true := e2
  have hf : (forthK s h d).same (forthK (forthK s h d).s h d) = true := by
    have h1 := e4
    simp only [fthB, Bool.and_eq_true] at h1
    exact h1.2
  have hnz := forth_nz e1 e2 hf
  cases hb : keyOkB ⟨4, s, h, d⟩ with
  | false => rw [forthK, rightK_no hb, KeyV.same_self] at hnz; cases hnz
  | true =>
    have hs : (forthK s h d).s = s := by rw [forthK, rightK_yes hb]
    have e5 : pkB (newSeatRaw h d p s) = (if p == 1 then s == 0 else if p == 2 then s != 0 else if p == 3 then s != 0 else false) := by
      show (if p == 1 then (forthK s h d).s == 0 else if p == 2 then (forthK s h d).s != 0 else if p == 3 then (forthK s h d).s != 0 else false) = _
      rw [hs]
    rw [e5] at e3
    have hr : inB s 0 100000 = true := by
      simp only [keyOkB, Bool.and_eq_true] at hb
      exact hb.2.1
    have hd' : s ≠ 0 → isDrawB s = true := fun hn => by
      have h1 := inB_true hr
      exact isDraw_iff.2 (by omega)
    rw [goesP]
    by_cases h1 : p = 1
    · rw [beq_int h1] at e3 ⊢; exact e3
    · rw [bne_int h1] at e3 ⊢
      by_cases h2 : p = 2
      · rw [beq_int h2] at e3 ⊢
        simp only [Bool.false_eq_true, if_false, if_true, bne_iff_ne] at e3
        simp [hd' (by simpa using e3)]
      · rw [bne_int h2] at e3 ⊢
        by_cases h3 : p = 3
        · rw [beq_int h3] at e3 ⊢
          simp only [Bool.false_eq_true, if_false, if_true, bne_iff_ne] at e3
          simp [hd' (by simpa using e3)]
        · rw [bne_int h3] at e3
          simp at e3
theorem newB_raw (h d p s : Int) : newSeatB h d p s = seatOkB (newSeatRaw h d p s) 0 := by
  rw [newSeatB]
  cases e : seatOkB (newSeatRaw h d p s) 0 with
  | false => simp
  | true => rw [new_goes e]; rfl

end Go.Proofs.YtioogmeghmeelaaGreat.Tx
namespace Go.Proofs.YtioogmeghmeelaaGreat.Tx
open Go.RowKit

theorem isRight_any (n : Int) (w : World) : Calls Tryz.prog 80 #[.int .i64 n] w fun e w' => e = .returned (.bool (isDrawB n)) ∧ w = w' := by
  by_cases h1 : 1 ≤ n <;> by_cases h2 : n ≤ 100000
  all_goals
    go_enter Tryz.func80, Tryz.ntmps80
    go_wp2
    go_ret
    exact ⟨by simp [isDrawB, h1, h2], rfl⟩

theorem IsDraw_same (n : Int) (w : World) : Calls Tryz.prog 62 #[.int .i64 n] w fun e w' => e = .returned (.bool (isDrawB n)) ∧ w = w' := by
  generalize hb : isDrawB n = b
  have hc := isRight_any n
  rw [hb] at hc
  go_enter Tryz.func62, Tryz.ntmps62
  go_wp2_with (go_at_call 80; refine (hc _).mono ?_; rintro e w' ⟨rfl, rfl⟩)
  go_ret
  exact ⟨rfl, rfl⟩

theorem IsDraw_impl (n : Int) (w : World) : Calls Tryz.prog 62 #[.int .i64 n] w fun e w' => e = .returned (.bool (isDrawB n)) ∧ Below w.heap.size w w' :=
  (IsDraw_same n w).mono fun _ _ ⟨he, hw⟩ => ⟨he, hw ▸ Below.refl _ _⟩

end Go.Proofs.YtioogmeghmeelaaGreat.Tx
namespace Go.Proofs.YtioogmeghmeelaaGreat.Tx
open Go.RowKit

/-- What a number of a key is: none (0), a draw (1), wrong (2). -/
def partZ (n : Int) : Int := if n = 0 then 0 else if isDrawB n then 1 else 2

theorem partOf_any (n : Int) (w : World) : Calls Tryz.prog 114 #[.int .i64 n] w fun e w' => e = .returned (.int .i64 (partZ n)) ∧ w = w' := by
  by_cases h0 : n = 0
  · have HR : Hid (partZ n = 0) := by show _ = _; simp [partZ, h0]
    have hb := beq_int h0
    clear h0
    go_enter Tryz.func114, Tryz.ntmps114
    go_wp2
    go_ret
    exact ⟨by rw [HR.out]; rfl, rfl⟩
  · have hb := bne_int h0
    cases hd : isDrawB n with
    | false =>
      have HR : Hid (partZ n = 2) := by show _ = _; simp [partZ, h0, hd]
      have hc := IsDraw_same n
      rw [hd] at hc
      clear h0 hd
      go_enter Tryz.func114, Tryz.ntmps114
      go_wp2_with (go_at_call 62; refine (hc _).mono ?_; rintro e w' ⟨rfl, rfl⟩)
      go_ret
      exact ⟨by rw [HR.out]; rfl, rfl⟩
    | true =>
      have HR : Hid (partZ n = 1) := by show _ = _; simp [partZ, h0, hd]
      have hc := IsDraw_same n
      rw [hd] at hc
      clear h0 hd
      go_enter Tryz.func114, Tryz.ntmps114
      go_wp2_with (go_at_call 62; refine (hc _).mono ?_; rintro e w' ⟨rfl, rfl⟩)
      go_ret
      exact ⟨by rw [HR.out]; rfl, rfl⟩

/-- What a use wants Hello and Answer to be, and whether it is one. -/
def wantH (u : Int) : Int := if inB u 1 5 then 1 else 0
def wantA (u : Int) : Int := if inB u 3 5 then 1 else 0

theorem partsOfUse_any (u : Int) (w : World) : Calls Tryz.prog 113 #[.int .i64 u] w fun e w' => e = .returned (.tuple #[.agg #[.int .i64 (wantH u), .int .i64 (wantA u)], .bool (inB u 1 6)]) ∧ Below w.heap.size w w' := by
  have HB : ∀ x y : Value, Hid (Below w.heap.size w (w.alloc (.cells #[x, y] 155))) := fun _ _ => (Below.refl _ w).alloc (Nat.le_refl _) _
  by_cases h1 : u = 1
  · subst h1
    go_enter Tryz.func113, Tryz.ntmps113
    go_wp2
    exact bodyPost_ret (v := .tuple #[.agg #[.int .i64 1, .int .i64 0], .bool true]) (by simp [results, Tryz.f113, go_sem]) rfl ⟨rfl, (HB _ _).out⟩
  by_cases h2 : u = 2
  · subst h2
    go_enter Tryz.func113, Tryz.ntmps113
    go_wp2
    exact bodyPost_ret (v := .tuple #[.agg #[.int .i64 1, .int .i64 0], .bool true]) (by simp [results, Tryz.f113, go_sem]) rfl ⟨rfl, (HB _ _).out⟩
  by_cases h3 : u = 3
  · subst h3
    go_enter Tryz.func113, Tryz.ntmps113
    go_wp2
    exact bodyPost_ret (v := .tuple #[.agg #[.int .i64 1, .int .i64 1], .bool true]) (by simp [results, Tryz.f113, go_sem]) rfl ⟨rfl, (HB _ _).out⟩
  by_cases h4 : u = 4
  · subst h4
    go_enter Tryz.func113, Tryz.ntmps113
    go_wp2
    exact bodyPost_ret (v := .tuple #[.agg #[.int .i64 1, .int .i64 1], .bool true]) (by simp [results, Tryz.f113, go_sem]) rfl ⟨rfl, (HB _ _).out⟩
  by_cases h5 : u = 5
  · subst h5
    go_enter Tryz.func113, Tryz.ntmps113
    go_wp2
    exact bodyPost_ret (v := .tuple #[.agg #[.int .i64 1, .int .i64 1], .bool true]) (by simp [results, Tryz.f113, go_sem]) rfl ⟨rfl, (HB _ _).out⟩
  by_cases h6 : u = 6
  · subst h6
    go_enter Tryz.func113, Tryz.ntmps113
    go_wp2
    exact bodyPost_ret (v := .tuple #[.agg #[.int .i64 0, .int .i64 0], .bool true]) (by simp [results, Tryz.f113, go_sem]) rfl ⟨rfl, (HB _ _).out⟩
  have HR : Hid (wantH u = 0 ∧ wantA u = 0 ∧ inB u 1 6 = false) := by
    have e1 : inB u 1 6 = false := by simp only [inB, Bool.and_eq_false_iff, decide_eq_false_iff_not]; omega
    have e2 : inB u 1 5 = false := by simp only [inB, Bool.and_eq_false_iff, decide_eq_false_iff_not]; omega
    have e3 : inB u 3 5 = false := by simp only [inB, Bool.and_eq_false_iff, decide_eq_false_iff_not]; omega
    exact ⟨by simp [wantH, e2], by simp [wantA, e3], e1⟩
  have b1 := bne_int h1
  have b2 := bne_int h2
  have b3 := bne_int h3
  have b4 := bne_int h4
  have b5 := bne_int h5
  have b6 := bne_int h6
  clear h1 h2 h3 h4 h5 h6
  go_enter Tryz.func113, Tryz.ntmps113
  go_wp2
  exact bodyPost_ret (v := .tuple #[.agg #[.int .i64 0, .int .i64 0], .bool false]) (by simp [results, Tryz.f113, go_sem]) rfl ⟨by rw [HR.out.1, HR.out.2.1, HR.out.2.2], (HB _ _).out⟩

set_option maxHeartbeats 1000000 in
theorem parts_any (k : KeyV) (w : World) : Calls Tryz.prog 115 #[k.val] w fun e w' => e = .returned (.agg #[.int .i64 (partZ k.h), .int .i64 (partZ k.a)]) ∧ Below w.heap.size w w' := by
  obtain ⟨u, s, h, a⟩ := k
  unfold KeyV.val
  dsimp only
  have HB : ∀ x y : Value, Hid (Below w.heap.size w ((w.alloc (.cells #[.int .i64 u, .int .i64 s, .int .i64 h, .int .i64 a] 63)).alloc (.cells #[x, y] 155))) := fun _ _ => (((Below.refl _ w).alloc (Nat.le_refl _) _).alloc (by simp) _)
  go_enter Tryz.func115, Tryz.ntmps115
  go_wp2
  go_region_with (go_at_call 114; refine (partOf_any _ _).mono ?_; rintro e w' ⟨rfl, rfl⟩)
  all_goals
    go_wp2
    exact bodyPost_ret (v := .agg #[.int .i64 (partZ h), .int .i64 (partZ a)]) (by simp [results, Tryz.f115, go_sem]) rfl ⟨rfl, drewN_below (HB _ _).out 1⟩

theorem partZ_bad {s : Int} (h : inB s 0 100000 = false) : partZ s = 2 := by
  simp only [inB, Bool.and_eq_false_iff, decide_eq_false_iff_not] at h
  have h0 : s ≠ 0 := by omega
  have h1 : isDrawB s = false := by simp only [isDrawB, Bool.and_eq_false_iff, decide_eq_false_iff_not]; omega
  simp [partZ, h0, h1]
theorem partZ_good {s : Int} (h : inB s 0 100000 = true) : ∃ p, partZ s = p ∧ (p != 2) = true := by
  simp only [inB, Bool.and_eq_true, decide_eq_true_iff] at h
  by_cases h0 : s = 0
  · exact ⟨0, by simp [partZ, h0], rfl⟩
  · have h1 : isDrawB s = true := by simp only [isDrawB, Bool.and_eq_true, decide_eq_true_iff]; omega
    exact ⟨1, by simp [partZ, h0, h1], rfl⟩
theorem partZ_one {n : Int} : (partZ n = 1) ↔ isDrawB n = true := by
  by_cases h0 : n = 0
  · subst h0; simp [partZ, isDrawB]
  · cases h : isDrawB n <;> simp [partZ, h0, h]
theorem partZ_none {n : Int} : (partZ n = 0) ↔ n = 0 := by
  by_cases h0 : n = 0
  · subst h0; simp [partZ]
  · cases h : isDrawB n <;> simp [partZ, h0, h]
theorem keyOk_parts {u s h a : Int} (hu : inB u 1 6 = true) (hs : inB s 0 100000 = true) : keyOkB ⟨u, s, h, a⟩ = (partZ h == wantH u && partZ a == wantA u) := by
  have h15 : inB u 1 5 = !(u == 6) := by
    rw [Bool.eq_iff_iff]
    simp only [inB, Bool.and_eq_true, decide_eq_true_iff, Bool.not_eq_true', beq_eq_false_iff_ne] at hu ⊢
    omega
  unfold keyOkB wantH wantA
  dsimp only
  rw [hu, hs, h15]
  cases h6 : u == 6 with
  | true =>
    have h35 : inB u 3 5 = false := by rw [eq_of_beq h6]; rfl
    rw [h35, Bool.eq_iff_iff]
    simp [partZ_none]
  | false =>
    cases h35 : inB u 3 5
    · rw [Bool.eq_iff_iff]
      simp [partZ_none, partZ_one]
    · rw [Bool.eq_iff_iff]
      simp [partZ_one]

set_option maxHeartbeats 2000000 in
theorem KeyOk_impl (k : KeyV) (w : World) : Calls Tryz.prog 101 #[k.val] w fun e w' => e = .returned (.bool (keyOkB k)) ∧ Below w.heap.size w w' := by
  obtain ⟨u, s, h, a⟩ := k
  have HV : Hid (KeyV.val ⟨u, s, h, a⟩ = .agg #[.int .i64 u, .int .i64 s, .int .i64 h, .int .i64 a]) := rfl
  rw [HV.out]
  go_enter Tryz.func101, Tryz.ntmps101
  go_wp2_with fail
  refine (partsOfUse_any u _).mono ?_
  rintro e w1 ⟨rfl, hb⟩
  have hk0 := (hb.block w.heap.size (by simp)).trans (heap1 w _)
  have HB := Lib.hid (below_new1 hb)
  clear hb
  obtain ⟨wh, hwh⟩ : ∃ x, wantH u = x := ⟨_, rfl⟩
  obtain ⟨wa, hwa⟩ : ∃ x, wantA u = x := ⟨_, rfl⟩
  have HH := Lib.hid hwh
  have HA := Lib.hid hwa
  rw [hwh, hwa]
  clear hwh hwa
  obtain ⟨W, hW⟩ : ∃ W, w1.alloc (.cells #[.int .i64 wh, .int .i64 wa] 155) = W := ⟨_, rfl⟩
  have hk : W.heap[w.heap.size]? = _ := hW ▸ alloc_blk hk0
  have hp : W.heap[w1.heap.size]? = _ := hW ▸ heap1 w1 _
  have HW : Hid (Below w.heap.size w W) := hW ▸ HB.out.alloc HB.out.size _
  cases hu : inB u 1 6 with
  | false =>
    have HR : Hid (keyOkB ⟨u, s, h, a⟩ = false) := by show _ = _; simp [keyOkB, hu]
    clear hu hk0
    go_wp2
    clear hW hk hp
    go_quiet (fail)
    go_wp2
    go_ret
    exact ⟨by rw [HR.out]; rfl, drewN_below HW.out _⟩
  | true =>
    obtain ⟨⟨a0, a1, a2, a3⟩, p0, p1, p2, p3⟩ := blk4 hk
    obtain ⟨⟨b0, b1⟩, q0, q1⟩ := blk2 hp
    have hlt := Lib.hid (blk_in hp)
    have HP := Lib.hid hp
    cases hs : inB s 0 100000 with
    | false =>
      have HR : Hid (keyOkB ⟨u, s, h, a⟩ = false) := by show _ = _; simp [keyOkB, hu, hs]
      have hps := partOf_any s
      rw [partZ_bad hs] at hps
      clear hu hk0 hs hk hp
      go_wp2
      clear hW
      go_quiet ((go_at_call 114; refine Calls.quiet_of_same ((hps _).mono fun _ _ ⟨he, hw⟩ => ⟨he, hw.symm⟩)))
      go_wp2
      go_ret
      exact ⟨by rw [HR.out]; rfl, drewN_below HW.out _⟩
    | true =>
      obtain ⟨ps, hps0, hne⟩ := partZ_good hs
      have HR : Hid (keyOkB ⟨u, s, h, a⟩ = (partZ h == wh && partZ a == wa)) := by
        show _ = _
        rw [← HH.out, ← HA.out]
        exact keyOk_parts hu hs
      have hps := partOf_any s
      have heq := eq_two
      rw [hps0] at hps
      clear hu hk0 hs hk hp hps0
      go_wp2
      clear hW
      go_region_with (first | (go_at_call 114; refine (hps _).mono ?_; rintro e w' ⟨rfl, rfl⟩) | (go_at_call 115; refine (parts_any ⟨u, s, h, a⟩ _).mono ?_; rintro e w2 ⟨rfl, hb⟩; obtain ⟨⟨c0, c1⟩, _⟩ := blk2 ((hb.block w1.heap.size hlt.out).trans HP.out); have HB2 := Lib.hid hb; clear hb))
      all_goals
        go_wp2
        go_ret
        exact ⟨by rw [HR.out]; rfl, (drewN_below HW.out 1).trans (HB2.out.mono HW.out.size)⟩

set_option maxHeartbeats 1000000 in
theorem rightKey_any (k : KeyV) (w : World) : Calls Tryz.prog 94 #[k.val] w fun e w' => e = .returned (rightK k).val ∧ Below w.heap.size w w' := by
  obtain ⟨u, s, h, a⟩ := k
  have HV : Hid (KeyV.val ⟨u, s, h, a⟩ = .agg #[.int .i64 u, .int .i64 s, .int .i64 h, .int .i64 a]) := rfl
  rw [HV.out]
  go_enter Tryz.func94, Tryz.ntmps94
  go_wp2_with fail
  refine (KeyOk_impl ⟨u, s, h, a⟩ _).mono ?_
  rintro e w1 ⟨rfl, hb⟩
  obtain ⟨⟨a0, a1, a2, a3⟩, p0, p1, p2, p3⟩ := blk4 ((hb.block w.heap.size (by simp; omega)).trans (heap2a w _ _))
  obtain ⟨⟨b0, b1, b2, b3⟩, q0, q1, q2, q3⟩ := blk4 ((hb.block (w.heap.size + 1) (by simp)).trans (heap2b w _ _))
  have HB := Lib.hid hb
  clear hb
  cases hk : keyOkB ⟨u, s, h, a⟩ with
  | false =>
    go_wp2
    refine bodyPost_ret (v := (rightK ⟨u, s, h, a⟩).val) ?_ rfl ⟨rfl, below_set4 (below_new2 HB.out) (by omega) _ _ _ _⟩
    rw [rightK_no hk]
    obtain ⟨s0, s1, s2, s3⟩ := set4_cell (w := w1) (g := w.heap.size + 1) (fun i hi => by match i, hi with | 0, _ => rw [b0]; rfl | 1, _ => rw [b1]; rfl | 2, _ => rw [b2]; rfl | 3, _ => rw [b3]; rfl) (.int .i64 0) (.int .i64 0) (.int .i64 0) (.int .i64 0)
    simp [results, Tryz.f94, go_sem, s0, s1, s2, s3, KeyV.val, KeyV.zero]
  | true =>
    go_wp2
    refine bodyPost_ret (v := (rightK ⟨u, s, h, a⟩).val) ?_ rfl ⟨rfl, below_set4 (below_new2 HB.out) (by omega) _ _ _ _⟩
    rw [rightK_yes hk]
    obtain ⟨s0, s1, s2, s3⟩ := set4_cell (w := w1) (g := w.heap.size + 1) (fun i hi => by match i, hi with | 0, _ => rw [b0]; rfl | 1, _ => rw [b1]; rfl | 2, _ => rw [b2]; rfl | 3, _ => rw [b3]; rfl) (.int .i64 u) (.int .i64 s) (.int .i64 h) (.int .i64 a)
    simp [results, Tryz.f94, go_sem, s0, s1, s2, s3, KeyV.val]

set_option maxHeartbeats 1000000 in
theorem EarlyKey_impl (s h : Int) (w : World) : Calls Tryz.prog 84 #[.int .i64 s, .int .i64 h] w fun e w' => e = .returned (rightK ⟨1, s, h, 0⟩).val ∧ Below w.heap.size w w' := by
  go_enter Tryz.func84, Tryz.ntmps84
  go_wp2_with fail
  refine (rightKey_any ⟨1, s, h, 0⟩ _).mono ?_
  rintro e w1 ⟨rfl, hb⟩
  obtain ⟨⟨b0, b1, b2, b3⟩, q0, q1, q2, q3⟩ := blk4 ((hb.block w.heap.size (by simp)).trans (heap1 w _))
  have HB := Lib.hid hb
  clear hb
  obtain ⟨k', hk'⟩ : ∃ k', rightK ⟨1, s, h, 0⟩ = k' := ⟨_, rfl⟩
  have HK := Lib.hid hk'
  rw [hk']
  clear hk'
  obtain ⟨ku, ks, kh, ka⟩ := k'
  unfold KeyV.val
  go_wp2
  refine bodyPost_ret (v := .agg #[.int .i64 ku, .int .i64 ks, .int .i64 kh, .int .i64 ka]) ?_ rfl ⟨by rw [HK.out]; rfl, below_set4 (below_new1 HB.out) (Nat.le_refl _) _ _ _ _⟩
  obtain ⟨s0, s1, s2, s3⟩ := set4_cell (w := w1) (g := w.heap.size) (fun i hi => by match i, hi with | 0, _ => rw [b0]; rfl | 1, _ => rw [b1]; rfl | 2, _ => rw [b2]; rfl | 3, _ => rw [b3]; rfl) (.int .i64 ku) (.int .i64 ks) (.int .i64 kh) (.int .i64 ka)
  simp [results, Tryz.f84, go_sem, s0, s1, s2, s3]

set_option maxHeartbeats 1000000 in
theorem ForthKey_impl (s h a : Int) (w : World) : Calls Tryz.prog 83 #[.int .i64 s, .int .i64 h, .int .i64 a] w fun e w' => e = .returned (rightK ⟨4, s, h, a⟩).val ∧ Below w.heap.size w w' := by
  go_enter Tryz.func83, Tryz.ntmps83
  go_wp2_with fail
  refine (rightKey_any ⟨4, s, h, a⟩ _).mono ?_
  rintro e w1 ⟨rfl, hb⟩
  obtain ⟨⟨b0, b1, b2, b3⟩, q0, q1, q2, q3⟩ := blk4 ((hb.block w.heap.size (by simp)).trans (heap1 w _))
  have HB := Lib.hid hb
  clear hb
  obtain ⟨k', hk'⟩ : ∃ k', rightK ⟨4, s, h, a⟩ = k' := ⟨_, rfl⟩
  have HK := Lib.hid hk'
  rw [hk']
  clear hk'
  obtain ⟨ku, ks, kh, ka⟩ := k'
  unfold KeyV.val
  go_wp2
  refine bodyPost_ret (v := .agg #[.int .i64 ku, .int .i64 ks, .int .i64 kh, .int .i64 ka]) ?_ rfl ⟨by rw [HK.out]; rfl, below_set4 (below_new1 HB.out) (Nat.le_refl _) _ _ _ _⟩
  obtain ⟨s0, s1, s2, s3⟩ := set4_cell (w := w1) (g := w.heap.size) (fun i hi => by match i, hi with | 0, _ => rw [b0]; rfl | 1, _ => rw [b1]; rfl | 2, _ => rw [b2]; rfl | 3, _ => rw [b3]; rfl) (.int .i64 ku) (.int .i64 ks) (.int .i64 kh) (.int .i64 ka)
  simp [results, Tryz.f83, go_sem, s0, s1, s2, s3]


end Go.Proofs.YtioogmeghmeelaaGreat.Tx
namespace Go.Proofs.YtioogmeghmeelaaGreat.Tx
open Go.RowKit

theorem isNo_any (n : Int) (w : World) : Calls Tryz.prog 100 #[.int .i64 n] w fun e w' => e = .returned (.bool (inB n 0 1000)) ∧ w = w' := by
  by_cases h1 : 0 ≤ n <;> by_cases h2 : n ≤ 1000
  all_goals
    go_enter Tryz.func100, Tryz.ntmps100
    go_wp2
    go_ret
    exact ⟨by simp [inB, h1, h2], rfl⟩

end Go.Proofs.YtioogmeghmeelaaGreat.Tx
namespace Go.Proofs.YtioogmeghmeelaaGreat.Tx
open Go.RowKit

theorem isNoKey_any (k : KeyV) (w : World) : Calls Tryz.prog 98 #[k.val] w fun e w' => e = .returned (.bool (k.same .zero)) ∧ Below w.heap.size w w' := by
  obtain ⟨u, s, h, a⟩ := k
  have HV : Hid (KeyV.val ⟨u, s, h, a⟩ = .agg #[.int .i64 u, .int .i64 s, .int .i64 h, .int .i64 a]) := rfl
  rw [HV.out]
  have hq := eq_agg u s h a 0 0 0 0
  have HB0 : Hid (Below w.heap.size w (w.alloc (.cells #[.int .i64 u, .int .i64 s, .int .i64 h, .int .i64 a] 63))) := (Below.refl _ w).alloc (Nat.le_refl _) _
  obtain ⟨b, hb⟩ : ∃ b, KeyV.same ⟨u, s, h, a⟩ ⟨0, 0, 0, 0⟩ = b := ⟨_, rfl⟩
  rw [hb] at hq
  have HR : Hid (KeyV.same ⟨u, s, h, a⟩ .zero = b) := hb
  clear hb
  go_enter Tryz.func98, Tryz.ntmps98
  go_wp2
  go_ret
  exact ⟨by rw [HR.out]; rfl, HB0.out⟩

theorem isRightKey_any (k : KeyV) (w : World) : Calls Tryz.prog 99 #[k.val] w fun e w' => e = .returned (.bool (keyOkB k)) ∧ Below w.heap.size w w' := by
  obtain ⟨u, s, h, a⟩ := k
  have HV : Hid (KeyV.val ⟨u, s, h, a⟩ = .agg #[.int .i64 u, .int .i64 s, .int .i64 h, .int .i64 a]) := rfl
  rw [HV.out]
  go_enter Tryz.func99, Tryz.ntmps99
  go_wp2_with fail
  refine (KeyOk_impl ⟨u, s, h, a⟩ _).mono ?_
  rintro e w1 ⟨rfl, hb⟩
  have L1 := Lib.hid (below_new1 hb)
  clear hb
  go_wp2
  go_ret
  exact ⟨rfl, L1.out⟩

set_option maxHeartbeats 1000000 in
theorem rowRight_any (r : RowV) (w : World) : Calls Tryz.prog 93 #[r.val] w fun e w' => e = .returned (.bool (rowOkB r)) ∧ Below w.heap.size w w' := by
  obtain ⟨⟨u, s, h, a⟩, no⟩ := r
  have HV : Hid (RowV.val ⟨⟨u, s, h, a⟩, no⟩ = .agg #[.int .i64 u, .int .i64 s, .int .i64 h, .int .i64 a, .int .i64 no]) := rfl
  rw [HV.out]
  go_enter Tryz.func93, Tryz.ntmps93
  go_wp2_with fail
  refine (isNoKey_any ⟨u, s, h, a⟩ _).mono ?_
  rintro e w1 ⟨rfl, hb⟩
  have K1 := Lib.hid (blk_on hb (heap1 w _))
  have L1 := Lib.hid (below_new1 hb)
  clear hb
  cases hz : KeyV.same ⟨u, s, h, a⟩ .zero with
  | true =>
    have HR : Hid (rowOkB ⟨⟨u, s, h, a⟩, no⟩ = inB no 0 1000) := by show ((KeyV.same ⟨u, s, h, a⟩ .zero || _) && _) = _; rw [hz]; rfl
    obtain ⟨⟨a0, a1, a2, a3, a4⟩, _⟩ := blk5 K1.out
    go_wp2_with fail
    refine (isNo_any _ _).mono ?_
    rintro e w' ⟨rfl, rfl⟩
    obtain ⟨b, hb⟩ : ∃ b, inB no 0 1000 = b := ⟨_, rfl⟩
    rw [hb]
    have HRb := Lib.hid hb
    clear hb
    go_wp2
    go_ret
    exact ⟨by rw [HR.out, HRb.out]; rfl, L1.out⟩
  | false =>
    have HR : Hid (rowOkB ⟨⟨u, s, h, a⟩, no⟩ = (keyOkB ⟨u, s, h, a⟩ && inB no 0 1000)) := by show ((KeyV.same ⟨u, s, h, a⟩ .zero || _) && _) = _; rw [hz]; rfl
    obtain ⟨⟨a0, a1, a2, a3, a4⟩, _⟩ := blk5 K1.out
    go_wp2_with fail
    clear a0 a1 a2 a3 a4
    refine (isRightKey_any ⟨u, s, h, a⟩ _).mono ?_
    rintro e w2 ⟨rfl, b2⟩
    have K2 := Lib.hid (blk_on b2 K1.out)
    have L2 := Lib.hid (L1.out.trans (b2.mono L1.out.size))
    clear b2
    obtain ⟨⟨a0, a1, a2, a3, a4⟩, _⟩ := blk5 K2.out
    cases hk : keyOkB ⟨u, s, h, a⟩ with
    | false =>
      rw [hk] at HR
      go_wp2
      go_ret
      exact ⟨by rw [HR.out]; rfl, L2.out⟩
    | true =>
      rw [hk] at HR
      go_wp2_with fail
      refine (isNo_any _ _).mono ?_
      rintro e w' ⟨rfl, rfl⟩
      obtain ⟨b, hb⟩ : ∃ b, inB no 0 1000 = b := ⟨_, rfl⟩
      rw [hb]
      have HRb := Lib.hid hb
      clear hb
      go_wp2
      go_ret
      exact ⟨by rw [HR.out, HRb.out]; rfl, L2.out⟩

theorem keyed_any (r : RowV) (w : World) : Calls Tryz.prog 92 #[r.val] w fun e w' => e = .returned r.val ∧ Below w.heap.size w w' := by
  obtain ⟨⟨u, s, h, a⟩, no⟩ := r
  have HV : Hid (RowV.val ⟨⟨u, s, h, a⟩, no⟩ = .agg #[.int .i64 u, .int .i64 s, .int .i64 h, .int .i64 a, .int .i64 no]) := rfl
  rw [HV.out]
  go_enter Tryz.func92, Tryz.ntmps92
  go_wp2
  exact row_ret (cs := #[.int .i64 u, .int .i64 s, .int .i64 h, .int .i64 a, .int .i64 no]) rfl rfl (heap2b w _ _) Tryz.underlying133 rfl (by kernel_rfl) rfl ⟨rfl, ((Below.refl _ w).alloc (Nat.le_refl _) _).alloc (by simp) _⟩

theorem RowOk_impl (r : RowV) (w : World) : Calls Tryz.prog 82 #[r.val] w fun e w' => e = .returned (.bool (rowOkB r)) ∧ Below w.heap.size w w' := by
  obtain ⟨⟨u, s, h, a⟩, no⟩ := r
  have HV : Hid (RowV.val ⟨⟨u, s, h, a⟩, no⟩ = .agg #[.int .i64 u, .int .i64 s, .int .i64 h, .int .i64 a, .int .i64 no]) := rfl
  rw [HV.out]
  go_enter Tryz.func82, Tryz.ntmps82
  go_wp2_with fail
  refine (keyed_any ⟨⟨u, s, h, a⟩, no⟩ _).mono ?_
  rintro e w1 ⟨rfl, hb⟩
  have L1 := Lib.hid (below_new1 hb)
  clear hb
  rw [HV.out]
  go_wp2_with fail
  refine (rowRight_any ⟨⟨u, s, h, a⟩, no⟩ _).mono ?_
  rintro e w2 ⟨rfl, b2⟩
  have L2 := Lib.hid (L1.out.trans (b2.mono L1.out.size))
  clear b2
  go_wp2
  go_ret
  exact ⟨rfl, L2.out⟩




end Go.Proofs.YtioogmeghmeelaaGreat.Tx
namespace Go.Proofs.YtioogmeghmeelaaGreat.Tx
open Go.RowKit

set_option maxRecDepth 100000 in
set_option maxHeartbeats 16000000 in
theorem secret_any (s : SeatV) (A : Option Addr) (n cap : Nat) (w : World) : Calls Tryz.prog 81 #[s.val A n cap] w fun e w' => e = .returned (.int .i64 s.f.k.s) ∧ Below w.heap.size w w' := by
  obtain ⟨st, sh, sd, sp, ⟨⟨eu, es, eh, ea⟩, en⟩, ⟨⟨fu, fs, fh, fa⟩, fn⟩⟩ := s
  have HV : Hid (SeatV.val ⟨st, sh, sd, sp, ⟨⟨eu, es, eh, ea⟩, en⟩, ⟨⟨fu, fs, fh, fa⟩, fn⟩⟩ A n cap = .agg #[.int .i64 st, .int .i64 sh, .int .i64 sd, .int .i64 sp, .int .i64 eu, .int .i64 es, .int .i64 eh, .int .i64 ea, .int .i64 en, .int .i64 fu, .int .i64 fs, .int .i64 fh, .int .i64 fa, .int .i64 fn, .slice A n cap]) := rfl
  rw [HV.out]
  dsimp only
  clear HV
  obtain ⟨W0, hW0⟩ : ∃ W, w.alloc (.cells #[.int .i64 st, .int .i64 sh, .int .i64 sd, .int .i64 sp, .int .i64 eu, .int .i64 es, .int .i64 eh, .int .i64 ea, .int .i64 en, .int .i64 fu, .int .i64 fs, .int .i64 fh, .int .i64 fa, .int .i64 fn, .slice A n cap] 68) = W := ⟨_, rfl⟩
  have K0 : Hid (Below w.heap.size w W0) := by rw [← hW0]; exact (Below.refl _ w).alloc (Nat.le_refl _) _
  have S0 : Hid (W0.heap[w.heap.size]? = some (.cells #[.int .i64 st, .int .i64 sh, .int .i64 sd, .int .i64 sp, .int .i64 eu, .int .i64 es, .int .i64 eh, .int .i64 ea, .int .i64 en, .int .i64 fu, .int .i64 fs, .int .i64 fh, .int .i64 fa, .int .i64 fn, .slice A n cap] 68)) := by rw [← hW0]; exact heap1 w _
  go_enter Tryz.func81, Tryz.ntmps81
  obtain ⟨⟨a0, a1, a2, a3, a4, a5, a6, a7, a8, a9, a10, a11, a12, a13, a14⟩, _⟩ := blk15 S0.out
  go_wp2
  go_ret
  exact ⟨rfl, K0.out⟩

set_option maxRecDepth 100000 in
set_option maxHeartbeats 16000000 in
theorem rightState_any (s : SeatV) (A : Option Addr) (n cap : Nat) (w : World) : Calls Tryz.prog 61 #[s.val A n cap] w fun e w' => e = .returned (.bool (s.st == 1 || s.st == 2)) ∧ Below w.heap.size w w' := by
  obtain ⟨st, sh, sd, sp, ⟨⟨eu, es, eh, ea⟩, en⟩, ⟨⟨fu, fs, fh, fa⟩, fn⟩⟩ := s
  have HV : Hid (SeatV.val ⟨st, sh, sd, sp, ⟨⟨eu, es, eh, ea⟩, en⟩, ⟨⟨fu, fs, fh, fa⟩, fn⟩⟩ A n cap = .agg #[.int .i64 st, .int .i64 sh, .int .i64 sd, .int .i64 sp, .int .i64 eu, .int .i64 es, .int .i64 eh, .int .i64 ea, .int .i64 en, .int .i64 fu, .int .i64 fs, .int .i64 fh, .int .i64 fa, .int .i64 fn, .slice A n cap]) := rfl
  rw [HV.out]
  dsimp only
  clear HV
  obtain ⟨W0, hW0⟩ : ∃ W, w.alloc (.cells #[.int .i64 st, .int .i64 sh, .int .i64 sd, .int .i64 sp, .int .i64 eu, .int .i64 es, .int .i64 eh, .int .i64 ea, .int .i64 en, .int .i64 fu, .int .i64 fs, .int .i64 fh, .int .i64 fa, .int .i64 fn, .slice A n cap] 68) = W := ⟨_, rfl⟩
  have K0 : Hid (Below w.heap.size w W0) := by rw [← hW0]; exact (Below.refl _ w).alloc (Nat.le_refl _) _
  have S0 : Hid (W0.heap[w.heap.size]? = some (.cells #[.int .i64 st, .int .i64 sh, .int .i64 sd, .int .i64 sp, .int .i64 eu, .int .i64 es, .int .i64 eh, .int .i64 ea, .int .i64 en, .int .i64 fu, .int .i64 fs, .int .i64 fh, .int .i64 fa, .int .i64 fn, .slice A n cap] 68)) := by rw [← hW0]; exact heap1 w _
  go_enter Tryz.func61, Tryz.ntmps61
  obtain ⟨⟨a0, a1, a2, a3, a4, a5, a6, a7, a8, a9, a10, a11, a12, a13, a14⟩, _⟩ := blk15 S0.out
  cases h1 : st == 1
  ·
    go_wp2
    go_ret
    exact ⟨rfl, K0.out⟩
  ·
    go_wp2
    go_ret
    exact ⟨rfl, K0.out⟩

set_option maxRecDepth 100000 in
set_option maxHeartbeats 16000000 in
theorem rightSecret_any (s : SeatV) (A : Option Addr) (n cap : Nat) (w : World) : Calls Tryz.prog 63 #[s.val A n cap] w fun e w' => e = .returned (.bool (pkB s)) ∧ Below w.heap.size w w' := by
  obtain ⟨st, sh, sd, sp, ⟨⟨eu, es, eh, ea⟩, en⟩, ⟨⟨fu, fs, fh, fa⟩, fn⟩⟩ := s
  have HV : Hid (SeatV.val ⟨st, sh, sd, sp, ⟨⟨eu, es, eh, ea⟩, en⟩, ⟨⟨fu, fs, fh, fa⟩, fn⟩⟩ A n cap = .agg #[.int .i64 st, .int .i64 sh, .int .i64 sd, .int .i64 sp, .int .i64 eu, .int .i64 es, .int .i64 eh, .int .i64 ea, .int .i64 en, .int .i64 fu, .int .i64 fs, .int .i64 fh, .int .i64 fa, .int .i64 fn, .slice A n cap]) := rfl
  rw [HV.out]
  have cX : Hid (∀ w' : World, Calls Tryz.prog 81 #[.agg #[.int .i64 st, .int .i64 sh, .int .i64 sd, .int .i64 sp, .int .i64 eu, .int .i64 es, .int .i64 eh, .int .i64 ea, .int .i64 en, .int .i64 fu, .int .i64 fs, .int .i64 fh, .int .i64 fa, .int .i64 fn, .slice A n cap]] w' fun e w'' => e = .returned (.int .i64 fs) ∧ Below w'.heap.size w' w'') := fun w' => by exact secret_any ⟨st, sh, sd, sp, ⟨⟨eu, es, eh, ea⟩, en⟩, ⟨⟨fu, fs, fh, fa⟩, fn⟩⟩ A n cap w'
  clear HV
  unfold pkB
  dsimp only
  obtain ⟨W0, hW0⟩ : ∃ W, w.alloc (.cells #[.int .i64 st, .int .i64 sh, .int .i64 sd, .int .i64 sp, .int .i64 eu, .int .i64 es, .int .i64 eh, .int .i64 ea, .int .i64 en, .int .i64 fu, .int .i64 fs, .int .i64 fh, .int .i64 fa, .int .i64 fn, .slice A n cap] 68) = W := ⟨_, rfl⟩
  have K0 : Hid (Below w.heap.size w W0) := by rw [← hW0]; exact (Below.refl _ w).alloc (Nat.le_refl _) _
  have S0 : Hid (W0.heap[w.heap.size]? = some (.cells #[.int .i64 st, .int .i64 sh, .int .i64 sd, .int .i64 sp, .int .i64 eu, .int .i64 es, .int .i64 eh, .int .i64 ea, .int .i64 en, .int .i64 fu, .int .i64 fs, .int .i64 fh, .int .i64 fa, .int .i64 fn, .slice A n cap] 68)) := by rw [← hW0]; exact heap1 w _
  go_enter Tryz.func63, Tryz.ntmps63
  obtain ⟨⟨a0, a1, a2, a3, a4, a5, a6, a7, a8, a9, a10, a11, a12, a13, a14⟩, _⟩ := blk15 S0.out
  by_cases h1 : sp = 1
  ·
    have h1q : (sp == 1) = true := beq_int h1
    rw [h1q]
    clear h1
    go_wp2_with (refine wpList_load_row rfl 68 _ rfl (w.heap.size) rfl 68 _ (0, 0) _ S0.out Tryz.underlying68 rfl (by kernel_rfl) ?_)
    refine (cX.out _).mono ?_
    rintro e w1 ⟨rfl, hb⟩
    have S1 := Lib.hid (blk_on hb S0.out)
    have K1 := Lib.hid (K0.out.trans (hb.mono K0.out.size))
    clear hb S0 K0
    go_wp2
    go_ret
    exact ⟨rfl, K1.out⟩
  ·
    have h1q : (sp == 1) = false := bne_int h1
    rw [h1q]
    clear h1
    by_cases h2 : sp = 2
    ·
      have h2q : (sp == 2) = true := beq_int h2
      rw [h2q]
      clear h2
      go_wp2_with (refine wpList_load_row rfl 68 _ rfl (w.heap.size) rfl 68 _ (0, 0) _ S0.out Tryz.underlying68 rfl (by kernel_rfl) ?_)
      refine (cX.out _).mono ?_
      rintro e w1 ⟨rfl, hb⟩
      have S1 := Lib.hid (blk_on hb S0.out)
      have K1 := Lib.hid (K0.out.trans (hb.mono K0.out.size))
      clear hb S0 K0
      go_wp2
      go_ret
      exact ⟨rfl, K1.out⟩
    ·
      have h2q : (sp == 2) = false := bne_int h2
      rw [h2q]
      clear h2
      by_cases h3 : sp = 3
      ·
        have h3q : (sp == 3) = true := beq_int h3
        rw [h3q]
        clear h3
        go_wp2_with (refine wpList_load_row rfl 68 _ rfl (w.heap.size) rfl 68 _ (0, 0) _ S0.out Tryz.underlying68 rfl (by kernel_rfl) ?_)
        refine (cX.out _).mono ?_
        rintro e w1 ⟨rfl, hb⟩
        have S1 := Lib.hid (blk_on hb S0.out)
        have K1 := Lib.hid (K0.out.trans (hb.mono K0.out.size))
        clear hb S0 K0
        go_wp2
        go_ret
        exact ⟨rfl, K1.out⟩
      ·
        have h3q : (sp == 3) = false := bne_int h3
        rw [h3q]
        clear h3
        go_wp2
        go_ret
        exact ⟨rfl, K0.out⟩

set_option maxRecDepth 100000 in
set_option maxHeartbeats 16000000 in
theorem rightForth_any (s : SeatV) (A : Option Addr) (n cap : Nat) (w : World) : Calls Tryz.prog 64 #[s.val A n cap] w fun e w' => e = .returned (.bool (fthB s)) ∧ Below w.heap.size w w' := by
  obtain ⟨st, sh, sd, sp, ⟨⟨eu, es, eh, ea⟩, en⟩, ⟨⟨fu, fs, fh, fa⟩, fn⟩⟩ := s
  have HV : Hid (SeatV.val ⟨st, sh, sd, sp, ⟨⟨eu, es, eh, ea⟩, en⟩, ⟨⟨fu, fs, fh, fa⟩, fn⟩⟩ A n cap = .agg #[.int .i64 st, .int .i64 sh, .int .i64 sd, .int .i64 sp, .int .i64 eu, .int .i64 es, .int .i64 eh, .int .i64 ea, .int .i64 en, .int .i64 fu, .int .i64 fs, .int .i64 fh, .int .i64 fa, .int .i64 fn, .slice A n cap]) := rfl
  rw [HV.out]
  have cX : Hid (∀ w' : World, Calls Tryz.prog 81 #[.agg #[.int .i64 st, .int .i64 sh, .int .i64 sd, .int .i64 sp, .int .i64 eu, .int .i64 es, .int .i64 eh, .int .i64 ea, .int .i64 en, .int .i64 fu, .int .i64 fs, .int .i64 fh, .int .i64 fa, .int .i64 fn, .slice A n cap]] w' fun e w'' => e = .returned (.int .i64 fs) ∧ Below w'.heap.size w' w'') := fun w' => by exact secret_any ⟨st, sh, sd, sp, ⟨⟨eu, es, eh, ea⟩, en⟩, ⟨⟨fu, fs, fh, fa⟩, fn⟩⟩ A n cap w'
  obtain ⟨⟨ku, ks, kh, ka⟩, hk⟩ : ∃ x, forthK fs sh sd = x := ⟨_, rfl⟩
  have cK' := fun w' => ForthKey_impl fs sh sd w'
  have e1 : rightK ⟨4, fs, sh, sd⟩ = forthK fs sh sd := rfl
  rw [e1, hk] at cK'
  have cK : Hid (∀ w' : World, Calls Tryz.prog 83 #[.int .i64 fs, .int .i64 sh, .int .i64 sd] w' fun e w'' => e = .returned (.agg #[.int .i64 ku, .int .i64 ks, .int .i64 kh, .int .i64 ka]) ∧ Below w'.heap.size w' w'') := fun w' => cK' w'
  have cR : Hid (∀ w' : World, Calls Tryz.prog 82 #[.agg #[.int .i64 fu, .int .i64 fs, .int .i64 fh, .int .i64 fa, .int .i64 fn]] w' fun e w'' => e = .returned (.bool (rowOkB ⟨⟨fu, fs, fh, fa⟩, fn⟩)) ∧ Below w'.heap.size w' w'') := fun w' => by exact RowOk_impl ⟨⟨fu, fs, fh, fa⟩, fn⟩ w'
  have HR : fthB ⟨st, sh, sd, sp, ⟨⟨eu, es, eh, ea⟩, en⟩, ⟨⟨fu, fs, fh, fa⟩, fn⟩⟩ = (rowOkB ⟨⟨fu, fs, fh, fa⟩, fn⟩ && KeyV.same ⟨fu, fs, fh, fa⟩ (forthK fs sh sd)) := rfl
  rw [hk] at HR
  rw [HR]
  clear HV HR cK' e1 hk
  generalize rowOkB ⟨⟨fu, fs, fh, fa⟩, fn⟩ = rr at cR ⊢
  obtain ⟨W0, hW0⟩ : ∃ W, w.alloc (.cells #[.int .i64 st, .int .i64 sh, .int .i64 sd, .int .i64 sp, .int .i64 eu, .int .i64 es, .int .i64 eh, .int .i64 ea, .int .i64 en, .int .i64 fu, .int .i64 fs, .int .i64 fh, .int .i64 fa, .int .i64 fn, .slice A n cap] 68) = W := ⟨_, rfl⟩
  have K0 : Hid (Below w.heap.size w W0) := by rw [← hW0]; exact (Below.refl _ w).alloc (Nat.le_refl _) _
  have S0 : Hid (W0.heap[w.heap.size]? = some (.cells #[.int .i64 st, .int .i64 sh, .int .i64 sd, .int .i64 sp, .int .i64 eu, .int .i64 es, .int .i64 eh, .int .i64 ea, .int .i64 en, .int .i64 fu, .int .i64 fs, .int .i64 fh, .int .i64 fa, .int .i64 fn, .slice A n cap] 68)) := by rw [← hW0]; exact heap1 w _
  go_enter Tryz.func64, Tryz.ntmps64
  go_wp2_with fail
  clear hW0
  cases rr with
  | false =>
    refine wp_region_own (W := W0) [] (fun _ => True) stays_true trivial [0, 0, 1, 0, 0, 0, 0, 0, 1, 0, 0, 0, 0, 1, 0, 0, 0] (by kernel_rfl) (by kernel_rfl) (by kernel_rfl) ?_
    have fS : ∀ q : In (plainEnv W0 []), _ := fun q => (blk15 (q.block S0.out (by simp))).1
    refine wpO_quiet 2 rfl (by kernel_rfl) ?_
    simp only [List.take, List.drop]
    repeat (go_big_quiet_step (fail))
    refine wpQuiet_nil ?_
    refine wpO_call (f := 82) (args := #[.agg #[.int .i64 fu, .int .i64 fs, .int .i64 fh, .int .i64 fa, .int .i64 fn]]) (.bool false) rfl (fun w' => by simp [go_sem]) (fun w' hC _ => cR.out w') ?_
    simp only [Act.put, List.setIfInBounds_toArray, List.set_cons_succ, List.set_cons_zero]
    refine wpO_quiet 5 rfl (by kernel_rfl) ?_
    simp only [List.take, List.drop]
    repeat (go_big_quiet_step (fail))
    refine wpQuiet_nil ?_
    refine wpO_skip rfl ?_
    simp only [Act.put, List.setIfInBounds_toArray, List.set_cons_succ, List.set_cons_zero]
    refine wpO_quiet 4 rfl (by kernel_rfl) ?_
    simp only [List.take, List.drop]
    repeat (go_big_quiet_step (fail))
    refine wpQuiet_nil ?_
    refine wpO_skip rfl ?_
    simp only [Act.put, List.setIfInBounds_toArray, List.set_cons_succ, List.set_cons_zero]
    refine wpO_quiet 3 rfl (by kernel_rfl) ?_
    simp only [List.take, List.drop]
    repeat (go_big_quiet_step (fail))
    refine wpQuiet_nil ?_
    refine wpO_nil ?_
    rintro w1 hb' _
    have hb := kept_below hb'
    have S1 := Lib.hid (blk_on hb S0.out)
    have K1 := Lib.hid (K0.out.trans (hb.mono K0.out.size))
    clear fS hb hb' S0 K0
    go_wp2
    go_ret
    exact ⟨rfl, K1.out⟩
  | true =>
    have hqe := eq_agg fu fs fh fa ku ks kh ka
    refine wp_region_own (W := W0) [] (fun _ => True) stays_true trivial [0, 0, 1, 0, 0, 0, 0, 0, 1, 0, 0, 0, 0, 1, 0, 0, 0] (by kernel_rfl) (by kernel_rfl) (by kernel_rfl) ?_
    have fS : ∀ q : In (plainEnv W0 []), _ := fun q => (blk15 (q.block S0.out (by simp))).1
    have rS : Hid (∀ q : In (plainEnv W0 []), q.w.heap[w.heap.size]? = some (.cells #[.int .i64 st, .int .i64 sh, .int .i64 sd, .int .i64 sp, .int .i64 eu, .int .i64 es, .int .i64 eh, .int .i64 ea, .int .i64 en, .int .i64 fu, .int .i64 fs, .int .i64 fh, .int .i64 fa, .int .i64 fn, .slice A n cap] 68)) := fun q => q.block S0.out (by simp)
    refine wpO_quiet 2 rfl (by kernel_rfl) ?_
    simp only [List.take, List.drop]
    repeat (go_big_quiet_step (fail))
    refine wpQuiet_nil ?_
    refine wpO_call (f := 82) (args := #[.agg #[.int .i64 fu, .int .i64 fs, .int .i64 fh, .int .i64 fa, .int .i64 fn]]) (.bool true) rfl (fun w' => by simp [go_sem]) (fun w' hC _ => cR.out w') ?_
    simp only [Act.put, List.setIfInBounds_toArray, List.set_cons_succ, List.set_cons_zero]
    refine wpO_quiet 4 rfl (by kernel_rfl) ?_
    simp only [List.take, List.drop]
    repeat (go_big_quiet_step (fail))
    refine wpQuiet_nil ?_
    refine wpO_load_row rfl 68 _ rfl (w.heap.size) rfl 68 _ (0, 0) _ rS.out Tryz.underlying68 rfl (by kernel_rfl) ?_
    simp only [Act.put, List.setIfInBounds_toArray, List.set_cons_succ, List.set_cons_zero]
    refine wpO_call (f := 81) (args := #[.agg #[.int .i64 st, .int .i64 sh, .int .i64 sd, .int .i64 sp, .int .i64 eu, .int .i64 es, .int .i64 eh, .int .i64 ea, .int .i64 en, .int .i64 fu, .int .i64 fs, .int .i64 fh, .int .i64 fa, .int .i64 fn, .slice A n cap]]) (.int .i64 fs) rfl (fun w' => by simp [go_sem]) (fun w' hC _ => cX.out w') ?_
    simp only [Act.put, List.setIfInBounds_toArray, List.set_cons_succ, List.set_cons_zero]
    refine wpO_quiet 4 rfl (by kernel_rfl) ?_
    simp only [List.take, List.drop]
    repeat (go_big_quiet_step (fail))
    refine wpQuiet_nil ?_
    refine wpO_call (f := 83) (args := #[.int .i64 fs, .int .i64 sh, .int .i64 sd]) (.agg #[.int .i64 ku, .int .i64 ks, .int .i64 kh, .int .i64 ka]) rfl (fun w' => by simp [go_sem]) (fun w' hC _ => cK.out w') ?_
    simp only [Act.put, List.setIfInBounds_toArray, List.set_cons_succ, List.set_cons_zero]
    refine wpO_quiet 3 rfl (by kernel_rfl) ?_
    simp only [List.take, List.drop]
    repeat (go_big_quiet_step (fail))
    refine wpQuiet_nil ?_
    refine wpO_nil ?_
    rintro w1 hb' _
    have hb := kept_below hb'
    have S1 := Lib.hid (blk_on hb S0.out)
    have K1 := Lib.hid (K0.out.trans (hb.mono K0.out.size))
    clear fS rS hb hb' S0 K0
    go_wp2
    go_ret
    exact ⟨rfl, K1.out⟩

set_option maxRecDepth 100000 in
set_option maxHeartbeats 16000000 in
theorem rightEarly_any (s : SeatV) (A : Option Addr) (n cap : Nat) (w : World) : Calls Tryz.prog 65 #[s.val A n cap] w fun e w' => e = .returned (.bool (erlB s)) ∧ Below w.heap.size w w' := by
  obtain ⟨st, sh, sd, sp, ⟨⟨eu, es, eh, ea⟩, en⟩, ⟨⟨fu, fs, fh, fa⟩, fn⟩⟩ := s
  have HV : Hid (SeatV.val ⟨st, sh, sd, sp, ⟨⟨eu, es, eh, ea⟩, en⟩, ⟨⟨fu, fs, fh, fa⟩, fn⟩⟩ A n cap = .agg #[.int .i64 st, .int .i64 sh, .int .i64 sd, .int .i64 sp, .int .i64 eu, .int .i64 es, .int .i64 eh, .int .i64 ea, .int .i64 en, .int .i64 fu, .int .i64 fs, .int .i64 fh, .int .i64 fa, .int .i64 fn, .slice A n cap]) := rfl
  rw [HV.out]
  have cX : Hid (∀ w' : World, Calls Tryz.prog 81 #[.agg #[.int .i64 st, .int .i64 sh, .int .i64 sd, .int .i64 sp, .int .i64 eu, .int .i64 es, .int .i64 eh, .int .i64 ea, .int .i64 en, .int .i64 fu, .int .i64 fs, .int .i64 fh, .int .i64 fa, .int .i64 fn, .slice A n cap]] w' fun e w'' => e = .returned (.int .i64 fs) ∧ Below w'.heap.size w' w'') := fun w' => by exact secret_any ⟨st, sh, sd, sp, ⟨⟨eu, es, eh, ea⟩, en⟩, ⟨⟨fu, fs, fh, fa⟩, fn⟩⟩ A n cap w'
  obtain ⟨⟨ku, ks, kh, ka⟩, hk⟩ : ∃ x, earlyK fs sh = x := ⟨_, rfl⟩
  have cK' := fun w' => EarlyKey_impl fs sh w'
  have e1 : rightK ⟨1, fs, sh, 0⟩ = earlyK fs sh := rfl
  rw [e1, hk] at cK'
  have cK : Hid (∀ w' : World, Calls Tryz.prog 84 #[.int .i64 fs, .int .i64 sh] w' fun e w'' => e = .returned (.agg #[.int .i64 ku, .int .i64 ks, .int .i64 kh, .int .i64 ka]) ∧ Below w'.heap.size w' w'') := fun w' => cK' w'
  have cR : Hid (∀ w' : World, Calls Tryz.prog 82 #[.agg #[.int .i64 eu, .int .i64 es, .int .i64 eh, .int .i64 ea, .int .i64 en]] w' fun e w'' => e = .returned (.bool (rowOkB ⟨⟨eu, es, eh, ea⟩, en⟩)) ∧ Below w'.heap.size w' w'') := fun w' => by exact RowOk_impl ⟨⟨eu, es, eh, ea⟩, en⟩ w'
  have HR : erlB ⟨st, sh, sd, sp, ⟨⟨eu, es, eh, ea⟩, en⟩, ⟨⟨fu, fs, fh, fa⟩, fn⟩⟩ = if st == 1 && sp == 3 then (rowOkB ⟨⟨eu, es, eh, ea⟩, en⟩ && KeyV.same ⟨eu, es, eh, ea⟩ (earlyK fs sh)) else RowV.isZ ⟨⟨eu, es, eh, ea⟩, en⟩ := rfl
  rw [hk] at HR
  rw [HR]
  clear HV HR cK' e1 hk
  generalize rowOkB ⟨⟨eu, es, eh, ea⟩, en⟩ = rr at cR ⊢
  obtain ⟨W0, hW0⟩ : ∃ W, w.alloc (.cells #[.int .i64 st, .int .i64 sh, .int .i64 sd, .int .i64 sp, .int .i64 eu, .int .i64 es, .int .i64 eh, .int .i64 ea, .int .i64 en, .int .i64 fu, .int .i64 fs, .int .i64 fh, .int .i64 fa, .int .i64 fn, .slice A n cap] 68) = W := ⟨_, rfl⟩
  have K0 : Hid (Below w.heap.size w W0) := by rw [← hW0]; exact (Below.refl _ w).alloc (Nat.le_refl _) _
  have S0 : Hid (W0.heap[w.heap.size]? = some (.cells #[.int .i64 st, .int .i64 sh, .int .i64 sd, .int .i64 sp, .int .i64 eu, .int .i64 es, .int .i64 eh, .int .i64 ea, .int .i64 en, .int .i64 fu, .int .i64 fs, .int .i64 fh, .int .i64 fa, .int .i64 fn, .slice A n cap] 68)) := by rw [← hW0]; exact heap1 w _
  go_enter Tryz.func65, Tryz.ntmps65
  obtain ⟨⟨a0, a1, a2, a3, a4, a5, a6, a7, a8, a9, a10, a11, a12, a13, a14⟩, _⟩ := blk15 S0.out
  by_cases hs : st = 1
  ·
    have hsq : (st == 1) = true := beq_int hs
    rw [hsq]
    clear hs
    by_cases hp : sp = 3
    ·
      have hpq : (sp == 3) = true := beq_int hp
      rw [hpq]
      clear hp
      simp only [Bool.and_true, if_true]
      go_wp2_with fail
      clear a0 a1 a2 a3 a4 a5 a6 a7 a8 a9 a10 a11 a12 a13 a14
      clear hW0
      cases rr with
      | false =>
        refine wp_region_own (W := W0) [] (fun _ => True) stays_true trivial [0, 0, 1, 0, 0, 0, 0, 0, 1, 0, 0, 1, 0, 0, 0] (by kernel_rfl) (by kernel_rfl) (by kernel_rfl) ?_
        have fS : ∀ q : In (plainEnv W0 []), _ := fun q => (blk15 (q.block S0.out (by simp))).1
        refine wpO_quiet 2 rfl (by kernel_rfl) ?_
        simp only [List.take, List.drop]
        repeat (go_big_quiet_step (fail))
        refine wpQuiet_nil ?_
        refine wpO_call (f := 82) (args := #[.agg #[.int .i64 eu, .int .i64 es, .int .i64 eh, .int .i64 ea, .int .i64 en]]) (.bool false) rfl (fun w' => by simp [go_sem]) (fun w' hC _ => cR.out w') ?_
        simp only [Act.put, List.setIfInBounds_toArray, List.set_cons_succ, List.set_cons_zero]
        refine wpO_quiet 5 rfl (by kernel_rfl) ?_
        simp only [List.take, List.drop]
        repeat (go_big_quiet_step (fail))
        refine wpQuiet_nil ?_
        refine wpO_skip rfl ?_
        simp only [Act.put, List.setIfInBounds_toArray, List.set_cons_succ, List.set_cons_zero]
        refine wpO_quiet 2 rfl (by kernel_rfl) ?_
        simp only [List.take, List.drop]
        repeat (go_big_quiet_step (fail))
        refine wpQuiet_nil ?_
        refine wpO_skip rfl ?_
        simp only [Act.put, List.setIfInBounds_toArray, List.set_cons_succ, List.set_cons_zero]
        refine wpO_quiet 3 rfl (by kernel_rfl) ?_
        simp only [List.take, List.drop]
        repeat (go_big_quiet_step (fail))
        refine wpQuiet_nil ?_
        refine wpO_nil ?_
        rintro w1 hb' _
        have hb := kept_below hb'
        have S1 := Lib.hid (blk_on hb S0.out)
        have K1 := Lib.hid (K0.out.trans (hb.mono K0.out.size))
        clear fS hb hb' S0 K0
        go_wp2
        go_ret
        exact ⟨rfl, K1.out⟩
      | true =>
        have hqe := eq_agg eu es eh ea ku ks kh ka
        refine wp_region_own (W := W0) [] (fun _ => True) stays_true trivial [0, 0, 1, 0, 0, 0, 0, 0, 1, 0, 0, 1, 0, 0, 0] (by kernel_rfl) (by kernel_rfl) (by kernel_rfl) ?_
        have fS : ∀ q : In (plainEnv W0 []), _ := fun q => (blk15 (q.block S0.out (by simp))).1
        have rS : Hid (∀ q : In (plainEnv W0 []), q.w.heap[w.heap.size]? = some (.cells #[.int .i64 st, .int .i64 sh, .int .i64 sd, .int .i64 sp, .int .i64 eu, .int .i64 es, .int .i64 eh, .int .i64 ea, .int .i64 en, .int .i64 fu, .int .i64 fs, .int .i64 fh, .int .i64 fa, .int .i64 fn, .slice A n cap] 68)) := fun q => q.block S0.out (by simp)
        refine wpO_quiet 2 rfl (by kernel_rfl) ?_
        simp only [List.take, List.drop]
        repeat (go_big_quiet_step (fail))
        refine wpQuiet_nil ?_
        refine wpO_call (f := 82) (args := #[.agg #[.int .i64 eu, .int .i64 es, .int .i64 eh, .int .i64 ea, .int .i64 en]]) (.bool true) rfl (fun w' => by simp [go_sem]) (fun w' hC _ => cR.out w') ?_
        simp only [Act.put, List.setIfInBounds_toArray, List.set_cons_succ, List.set_cons_zero]
        refine wpO_quiet 4 rfl (by kernel_rfl) ?_
        simp only [List.take, List.drop]
        repeat (go_big_quiet_step (fail))
        refine wpQuiet_nil ?_
        refine wpO_load_row rfl 68 _ rfl (w.heap.size) rfl 68 _ (0, 0) _ rS.out Tryz.underlying68 rfl (by kernel_rfl) ?_
        simp only [Act.put, List.setIfInBounds_toArray, List.set_cons_succ, List.set_cons_zero]
        refine wpO_call (f := 81) (args := #[.agg #[.int .i64 st, .int .i64 sh, .int .i64 sd, .int .i64 sp, .int .i64 eu, .int .i64 es, .int .i64 eh, .int .i64 ea, .int .i64 en, .int .i64 fu, .int .i64 fs, .int .i64 fh, .int .i64 fa, .int .i64 fn, .slice A n cap]]) (.int .i64 fs) rfl (fun w' => by simp [go_sem]) (fun w' hC _ => cX.out w') ?_
        simp only [Act.put, List.setIfInBounds_toArray, List.set_cons_succ, List.set_cons_zero]
        refine wpO_quiet 2 rfl (by kernel_rfl) ?_
        simp only [List.take, List.drop]
        repeat (go_big_quiet_step (fail))
        refine wpQuiet_nil ?_
        refine wpO_call (f := 84) (args := #[.int .i64 fs, .int .i64 sh]) (.agg #[.int .i64 ku, .int .i64 ks, .int .i64 kh, .int .i64 ka]) rfl (fun w' => by simp [go_sem]) (fun w' hC _ => cK.out w') ?_
        simp only [Act.put, List.setIfInBounds_toArray, List.set_cons_succ, List.set_cons_zero]
        refine wpO_quiet 3 rfl (by kernel_rfl) ?_
        simp only [List.take, List.drop]
        repeat (go_big_quiet_step (fail))
        refine wpQuiet_nil ?_
        refine wpO_nil ?_
        rintro w1 hb' _
        have hb := kept_below hb'
        have S1 := Lib.hid (blk_on hb S0.out)
        have K1 := Lib.hid (K0.out.trans (hb.mono K0.out.size))
        clear fS rS hb hb' S0 K0
        go_wp2
        go_ret
        exact ⟨rfl, K1.out⟩
    ·
      have hpq : (sp == 3) = false := bne_int hp
      rw [hpq]
      clear hp
      simp only [Bool.and_false, Bool.false_eq_true, if_false]
      have hz := eq_row_zero eu es eh ea en
      go_wp2
      go_ret
      exact ⟨rfl, K0.out⟩
  ·
    have hsq : (st == 1) = false := bne_int hs
    rw [hsq]
    clear hs
    simp only [Bool.false_and, Bool.false_eq_true, if_false]
    have hz := eq_row_zero eu es eh ea en
    go_wp2
    go_ret
    exact ⟨rfl, K0.out⟩

set_option maxRecDepth 100000 in
set_option maxHeartbeats 16000000 in
theorem SeatOk_impl0 (s : SeatV) (A : Option Addr) (n cap : Nat) (w : World) : Calls Tryz.prog 39 #[s.val A n cap] w fun e w' => e = .returned (.bool (seatOkB s n)) ∧ Below w.heap.size w w' := by
  obtain ⟨st, sh, sd, sp, ⟨⟨eu, es, eh, ea⟩, en⟩, ⟨⟨fu, fs, fh, fa⟩, fn⟩⟩ := s
  have HV : Hid (SeatV.val ⟨st, sh, sd, sp, ⟨⟨eu, es, eh, ea⟩, en⟩, ⟨⟨fu, fs, fh, fa⟩, fn⟩⟩ A n cap = .agg #[.int .i64 st, .int .i64 sh, .int .i64 sd, .int .i64 sp, .int .i64 eu, .int .i64 es, .int .i64 eh, .int .i64 ea, .int .i64 en, .int .i64 fu, .int .i64 fs, .int .i64 fh, .int .i64 fa, .int .i64 fn, .slice A n cap]) := rfl
  rw [HV.out]
  rw [seat_prog]
  have c0 : Hid (∀ w' : World, Calls Tryz.prog 61 #[.agg #[.int .i64 st, .int .i64 sh, .int .i64 sd, .int .i64 sp, .int .i64 eu, .int .i64 es, .int .i64 eh, .int .i64 ea, .int .i64 en, .int .i64 fu, .int .i64 fs, .int .i64 fh, .int .i64 fa, .int .i64 fn, .slice A n cap]] w' fun e w'' => e = .returned (.bool (st == 1 || st == 2)) ∧ Below w'.heap.size w' w'') := fun w' => by exact rightState_any ⟨st, sh, sd, sp, ⟨⟨eu, es, eh, ea⟩, en⟩, ⟨⟨fu, fs, fh, fa⟩, fn⟩⟩ A n cap w'
  have c1 : Hid (∀ w' : World, Calls Tryz.prog 62 #[.int .i64 sh] w' fun e w'' => e = .returned (.bool (isDrawB sh)) ∧ Below w'.heap.size w' w'') := fun w' => by exact IsDraw_impl sh w'
  have c2 : Hid (∀ w' : World, Calls Tryz.prog 62 #[.int .i64 sd] w' fun e w'' => e = .returned (.bool (isDrawB sd)) ∧ Below w'.heap.size w' w'') := fun w' => by exact IsDraw_impl sd w'
  have c3 : Hid (∀ w' : World, Calls Tryz.prog 63 #[.agg #[.int .i64 st, .int .i64 sh, .int .i64 sd, .int .i64 sp, .int .i64 eu, .int .i64 es, .int .i64 eh, .int .i64 ea, .int .i64 en, .int .i64 fu, .int .i64 fs, .int .i64 fh, .int .i64 fa, .int .i64 fn, .slice A n cap]] w' fun e w'' => e = .returned (.bool (pkB ⟨st, sh, sd, sp, ⟨⟨eu, es, eh, ea⟩, en⟩, ⟨⟨fu, fs, fh, fa⟩, fn⟩⟩)) ∧ Below w'.heap.size w' w'') := fun w' => by exact rightSecret_any ⟨st, sh, sd, sp, ⟨⟨eu, es, eh, ea⟩, en⟩, ⟨⟨fu, fs, fh, fa⟩, fn⟩⟩ A n cap w'
  have c4 : Hid (∀ w' : World, Calls Tryz.prog 64 #[.agg #[.int .i64 st, .int .i64 sh, .int .i64 sd, .int .i64 sp, .int .i64 eu, .int .i64 es, .int .i64 eh, .int .i64 ea, .int .i64 en, .int .i64 fu, .int .i64 fs, .int .i64 fh, .int .i64 fa, .int .i64 fn, .slice A n cap]] w' fun e w'' => e = .returned (.bool (fthB ⟨st, sh, sd, sp, ⟨⟨eu, es, eh, ea⟩, en⟩, ⟨⟨fu, fs, fh, fa⟩, fn⟩⟩)) ∧ Below w'.heap.size w' w'') := fun w' => by exact rightForth_any ⟨st, sh, sd, sp, ⟨⟨eu, es, eh, ea⟩, en⟩, ⟨⟨fu, fs, fh, fa⟩, fn⟩⟩ A n cap w'
  have c5 : Hid (∀ w' : World, Calls Tryz.prog 65 #[.agg #[.int .i64 st, .int .i64 sh, .int .i64 sd, .int .i64 sp, .int .i64 eu, .int .i64 es, .int .i64 eh, .int .i64 ea, .int .i64 en, .int .i64 fu, .int .i64 fs, .int .i64 fh, .int .i64 fa, .int .i64 fn, .slice A n cap]] w' fun e w'' => e = .returned (.bool (erlB ⟨st, sh, sd, sp, ⟨⟨eu, es, eh, ea⟩, en⟩, ⟨⟨fu, fs, fh, fa⟩, fn⟩⟩)) ∧ Below w'.heap.size w' w'') := fun w' => by exact rightEarly_any ⟨st, sh, sd, sp, ⟨⟨eu, es, eh, ea⟩, en⟩, ⟨⟨fu, fs, fh, fa⟩, fn⟩⟩ A n cap w'
  generalize pkB ⟨st, sh, sd, sp, ⟨⟨eu, es, eh, ea⟩, en⟩, ⟨⟨fu, fs, fh, fa⟩, fn⟩⟩ = z3 at c3 ⊢
  generalize fthB ⟨st, sh, sd, sp, ⟨⟨eu, es, eh, ea⟩, en⟩, ⟨⟨fu, fs, fh, fa⟩, fn⟩⟩ = z4 at c4 ⊢
  generalize erlB ⟨st, sh, sd, sp, ⟨⟨eu, es, eh, ea⟩, en⟩, ⟨⟨fu, fs, fh, fa⟩, fn⟩⟩ = z5 at c5 ⊢
  dsimp only
  generalize (st == 1 || st == 2) = z0 at c0 ⊢
  generalize isDrawB sh = z1 at c1 ⊢
  generalize isDrawB sd = z2 at c2 ⊢
  have hl : decide ((n : Int) ≤ 60) = decide (n ≤ 60) := by
    by_cases h6 : n ≤ 60
    · rw [decide_eq_true h6, decide_eq_true (by omega)]
    · rw [decide_eq_false h6, decide_eq_false (by omega)]
  generalize decide (n ≤ 60) = zn at hl ⊢
  clear HV
  obtain ⟨W0, hW0⟩ : ∃ W, w.alloc (.cells #[.int .i64 st, .int .i64 sh, .int .i64 sd, .int .i64 sp, .int .i64 eu, .int .i64 es, .int .i64 eh, .int .i64 ea, .int .i64 en, .int .i64 fu, .int .i64 fs, .int .i64 fh, .int .i64 fa, .int .i64 fn, .slice A n cap] 68) = W := ⟨_, rfl⟩
  have K0 : Hid (Below w.heap.size w W0) := by rw [← hW0]; exact (Below.refl _ w).alloc (Nat.le_refl _) _
  have S0 : Hid (W0.heap[w.heap.size]? = some (.cells #[.int .i64 st, .int .i64 sh, .int .i64 sd, .int .i64 sp, .int .i64 eu, .int .i64 es, .int .i64 eh, .int .i64 ea, .int .i64 en, .int .i64 fu, .int .i64 fs, .int .i64 fh, .int .i64 fa, .int .i64 fn, .slice A n cap] 68)) := by rw [← hW0]; exact heap1 w _
  go_enter Tryz.func39, Tryz.ntmps39
  go_wp2_with (refine wpList_load_row rfl 68 _ rfl (w.heap.size) rfl 68 _ (0, 0) _ S0.out Tryz.underlying68 rfl (by kernel_rfl) ?_)
  clear hW0
  refine (c0.out _).mono ?_
  rintro e w1 ⟨rfl, hb⟩
  have S1 := Lib.hid (blk_on hb S0.out)
  have K1 := Lib.hid (K0.out.trans (hb.mono K0.out.size))
  clear hb S0 K0
  cases z0 with
  | false =>
    go_wp2
    go_ret
    exact ⟨rfl, K1.out⟩
  | true =>
    obtain ⟨⟨a0, a1, a2, a3, a4, a5, a6, a7, a8, a9, a10, a11, a12, a13, a14⟩, _⟩ := blk15 S1.out
    go_wp2_with fail
    clear a0 a1 a2 a3 a4 a5 a6 a7 a8 a9 a10 a11 a12 a13 a14
    refine (c1.out _).mono ?_
    rintro e w2 ⟨rfl, hb⟩
    have S2 := Lib.hid (blk_on hb S1.out)
    have K2 := Lib.hid (K1.out.trans (hb.mono K1.out.size))
    clear hb S1 K1
    cases z1 with
    | false =>
      go_wp2
      go_ret
      exact ⟨rfl, K2.out⟩
    | true =>
      obtain ⟨⟨a0, a1, a2, a3, a4, a5, a6, a7, a8, a9, a10, a11, a12, a13, a14⟩, _⟩ := blk15 S2.out
      go_wp2_with fail
      clear a0 a1 a2 a3 a4 a5 a6 a7 a8 a9 a10 a11 a12 a13 a14
      refine (c2.out _).mono ?_
      rintro e w3 ⟨rfl, hb⟩
      have S3 := Lib.hid (blk_on hb S2.out)
      have K3 := Lib.hid (K2.out.trans (hb.mono K2.out.size))
      clear hb S2 K2
      cases z2 with
      | false =>
        go_wp2
        go_ret
        exact ⟨rfl, K3.out⟩
      | true =>
        go_wp2_with (refine wpList_load_wanted rfl 68 _ rfl (w.heap.size) rfl 68 _ (0, 0) _ S3.out Tryz.underlying68 rfl (by kernel_rfl) ?_)
        refine (c3.out _).mono ?_
        rintro e w4 ⟨rfl, hb⟩
        have S4 := Lib.hid (blk_on hb S3.out)
        have K4 := Lib.hid (K3.out.trans (hb.mono K3.out.size))
        clear hb S3 K3
        cases z3 with
        | false =>
          go_wp2
          go_ret
          exact ⟨rfl, K4.out⟩
        | true =>
          go_wp2_with (refine wpList_load_wanted rfl 68 _ rfl (w.heap.size) rfl 68 _ (0, 0) _ S4.out Tryz.underlying68 rfl (by kernel_rfl) ?_)
          refine (c4.out _).mono ?_
          rintro e w5 ⟨rfl, hb⟩
          have S5 := Lib.hid (blk_on hb S4.out)
          have K5 := Lib.hid (K4.out.trans (hb.mono K4.out.size))
          clear hb S4 K4
          cases z4 with
          | false =>
            go_wp2
            go_ret
            exact ⟨rfl, K5.out⟩
          | true =>
            go_wp2_with (refine wpList_load_wanted rfl 68 _ rfl (w.heap.size) rfl 68 _ (0, 0) _ S5.out Tryz.underlying68 rfl (by kernel_rfl) ?_)
            refine (c5.out _).mono ?_
            rintro e w6 ⟨rfl, hb⟩
            have S6 := Lib.hid (blk_on hb S5.out)
            have K6 := Lib.hid (K5.out.trans (hb.mono K5.out.size))
            clear hb S5 K5
            cases z5 with
            | false =>
              go_wp2
              go_ret
              exact ⟨rfl, K6.out⟩
            | true =>
              obtain ⟨⟨a0, a1, a2, a3, a4, a5, a6, a7, a8, a9, a10, a11, a12, a13, a14⟩, _⟩ := blk15 S6.out
              go_wp2
              go_ret
              exact ⟨by simp, K6.out⟩
theorem SeatOk_impl (s : SeatV) (A : Option Addr) (n cap : Nat) (l : List WordV) (w : World) (_ : EltsO w w.heap.size A n l) (_ : n ≤ 1048576) : Calls Tryz.prog 39 #[s.val A n cap] w fun e w' => e = .returned (.bool (seatOkB s n)) ∧ Below w.heap.size w w' := SeatOk_impl0 s A n cap w

end Go.Proofs.YtioogmeghmeelaaGreat.Tx
namespace Go.Proofs.YtioogmeghmeelaaGreat.Tx
open Go.RowKit

set_option maxRecDepth 100000 in
set_option maxHeartbeats 16000000 in
theorem copiedList_any (A : Option Addr) (n cap : Nat) (l : List WordV) (w : World) (h : EltsO w w.heap.size A n l) (hzc : A = none → cap = 0) (hn : n ≤ 1048576) :
    Calls Tryz.prog 68 #[.slice A n cap] w fun e w' => ∃ g cb, e = .returned (.slice (some ⟨g, 0, none⟩) n cb) ∧ MadeE w' w.heap.size 107 l g cb ∧ Below w.heap.size w w' := by
  obtain ⟨i0, by0, hi, hz0, hz1, hz2, hby⟩ := infoWordE
  have E := Lib.hid h
  have hz := Lib.hid hzc
  clear h hzc
  obtain ⟨W0, hW0⟩ : ∃ W, w.alloc (.cells #[] 107) = W := ⟨_, rfl⟩
  have K0 : Hid (Below w.heap.size w W0) := by rw [← hW0]; exact (Below.refl _ w).alloc (Nat.le_refl _) _
  have N0 : Hid (W0.heap[w.heap.size]? = some (.cells #[] 107)) := by rw [← hW0]; exact heap1 w _
  have E1 := Lib.hid (E.out.below K0.out)
  have hlt : w.heap.size < W0.heap.size := blk_in N0.out
  go_enter Tryz.func68, Tryz.ntmps68
  rcases A with _ | ad
  · have hn0 : n = 0 := by
      rcases Nat.eq_zero_or_pos n with h | h
      · exact h
      · obtain ⟨_, _, e, _⟩ := E.out.2 h; cases e
    subst hn0
    obtain rfl : l = [] := List.length_eq_zero_iff.1 E.out.1
    obtain rfl : cap = 0 := hz.out rfl
    have M0 : Hid (MadeE W0 w.heap.size 107 ([] : List WordV) w.heap.size 0) := madeG_nil N0.out (Nat.le_refl _)
    have hap := run_append_owned_none W0 w.heap.size 104 104 107 i0 2 Tryz.underlying104 hi _ 0 [] M0.out.own
    go_wp2
    go_ret
    exact ⟨w.heap.size, 0, rfl, M0.out, K0.out⟩
  · go_wp2_with (at_builtin; refine wpList_append_own _ rfl _ _ 104 rfl w.heap.size 107 i0 WordV.zero.val 2 by0 Tryz.underlying104 hi hz0 hz1 hz2 rfl (by decide) _ 0 [] rfl (madeG_nil N0.out (Nat.le_refl _)).own ad n cap (l.flatMap Cells.cells) rfl (by rw [flat_len, E.out.1]; rfl) (E1.out.cells (by omega)) flat_one (by unfold maxLen; omega) (Nat.le_trans (Nat.mul_le_mul (by omega : 0 + n ≤ 1048576) hby) (by decide)) (by omega) ?_; intro v' w3 hown' hgrow hiff; have h9 := made_app (l := ([] : List WordV)) (l2 := l) (n := 0) (m := n) (gb := w.heap.size) (cb := 0) hown' rfl E.out.1.symm hiff; obtain ⟨gb', cb', rfl, hM'⟩ := h9; have HM' : Hid (MadeE w3 w.heap.size 107 l gb' cb') := hM'; have HGR := Lib.hid hgrow; clear hown' hgrow hM' hiff)
    have hln : l.length = n := E.out.1
    try rw [List.nil_append]
    try simp only [hln]
    go_ret
    exact ⟨gb', cb', rfl, HM'.out, below_off K0.out HGR.out ⟨Nat.le_refl _, by omega⟩⟩

theorem EltsO.oncopy {α : Type} [Cells α] {w w' : World} {B n : Nat} {A : Option Addr} {l : List α} (h : EltsO w B A n l) (k : Below B w w') (hs : B ≤ w'.heap.size) : EltsO w' w'.heap.size A n l := (h.below k).mono hs

set_option maxRecDepth 100000 in
set_option maxHeartbeats 16000000 in
theorem copied_any (s : SeatV) (A : Option Addr) (n cap : Nat) (l : List WordV) (w : World) (h : EltsO w w.heap.size A n l) (hzc : A = none → cap = 0) (hn : n ≤ 1048576) :
    Calls Tryz.prog 43 #[s.val A n cap] w fun e w' => ∃ g cb, e = .returned (s.val (some ⟨g, 0, none⟩) n cb) ∧ MadeE w' w.heap.size 107 l g cb ∧ Below w.heap.size w w' := by
  have E := Lib.hid h
  have cL := Lib.hid fun (w' : World) (h' : EltsO w' w'.heap.size A n l) => copiedList_any A n cap l w' h' hzc hn
  clear h hzc
  obtain ⟨st, sh, sd, sp, ⟨⟨eu, es, eh, ea⟩, en⟩, ⟨⟨fu, fs, fh, fa⟩, fn⟩⟩ := s
  have HV : Hid (SeatV.val ⟨st, sh, sd, sp, ⟨⟨eu, es, eh, ea⟩, en⟩, ⟨⟨fu, fs, fh, fa⟩, fn⟩⟩ A n cap = .agg #[.int .i64 st, .int .i64 sh, .int .i64 sd, .int .i64 sp, .int .i64 eu, .int .i64 es, .int .i64 eh, .int .i64 ea, .int .i64 en, .int .i64 fu, .int .i64 fs, .int .i64 fh, .int .i64 fa, .int .i64 fn, .slice A n cap]) := rfl
  rw [HV.out]
  clear HV
  obtain ⟨W0, hW0⟩ : ∃ W, (w.alloc (.cells #[.int .i64 st, .int .i64 sh, .int .i64 sd, .int .i64 sp, .int .i64 eu, .int .i64 es, .int .i64 eh, .int .i64 ea, .int .i64 en, .int .i64 fu, .int .i64 fs, .int .i64 fh, .int .i64 fa, .int .i64 fn, .slice A n cap] 68)).alloc (.cells #[.int .i64 0, .int .i64 0, .int .i64 0, .int .i64 0, .int .i64 0, .int .i64 0, .int .i64 0, .int .i64 0, .int .i64 0, .int .i64 0, .int .i64 0, .int .i64 0, .int .i64 0, .int .i64 0, .slice none 0 0] 68) = W := ⟨_, rfl⟩
  have K0 : Hid (Below w.heap.size w W0) := by rw [← hW0]; exact ((Below.refl _ w).alloc (Nat.le_refl _) _).alloc (by simp; try omega) _
  have Y0 : Hid (W0.heap[w.heap.size]? = some (.cells #[.int .i64 st, .int .i64 sh, .int .i64 sd, .int .i64 sp, .int .i64 eu, .int .i64 es, .int .i64 eh, .int .i64 ea, .int .i64 en, .int .i64 fu, .int .i64 fs, .int .i64 fh, .int .i64 fa, .int .i64 fn, .slice A n cap] 68)) := by rw [← hW0]; exact heap2a w _ _
  have R0 : Hid (W0.heap[w.heap.size + 1]? = some (.cells #[.int .i64 0, .int .i64 0, .int .i64 0, .int .i64 0, .int .i64 0, .int .i64 0, .int .i64 0, .int .i64 0, .int .i64 0, .int .i64 0, .int .i64 0, .int .i64 0, .int .i64 0, .int .i64 0, .slice none 0 0] 68)) := by rw [← hW0]; exact heap2b w _ _
  have zW0 : W0.heap.size = w.heap.size + 2 := by rw [← hW0]; simp
  go_enter Tryz.func43, Tryz.ntmps43
  obtain ⟨⟨a0, a1, a2, a3, a4, a5, a6, a7, a8, a9, a10, a11, a12, a13, a14⟩, _⟩ := blk15 Y0.out
  go_wp2_with fail
  clear a0 a1 a2 a3 a4 a5 a6 a7 a8 a9 a10 a11 a12 a13 a14
  clear hW0
  refine (cL.out _ (E.out.oncopy K0.out K0.out.size)).mono ?_
  rintro e w1 ⟨g, cb, rfl, hM, hb⟩
  have M0 := Lib.hid (hM.mono K0.out.size)
  have hgb := hM.base
  have hsw := hb.size
  clear hM
  have Y1 := Lib.hid (blk_on hb Y0.out)
  have R1 := Lib.hid (blk_on hb R0.out)
  have K1 := Lib.hid (K0.out.trans (hb.mono K0.out.size))
  clear hb Y0 R0 K0
  obtain ⟨⟨b0, b1, b2, b3, b4, b5, b6, b7, b8, b9, b10, b11, b12, b13, b14⟩, bz0, bz1, bz2, bz3, bz4, bz5, bz6, bz7, bz8, bz9, bz10, bz11, bz12, bz13, bz14⟩ := blk15 Y1.out
  obtain ⟨S2, qS2⟩ : ∃ W, setAll w1 w.heap.size 14 [.slice (some ⟨g, 0, none⟩) n cb] = W := ⟨_, rfl⟩
  have hS2 : (w1.setCell ⟨w.heap.size, 14, none⟩ (.slice (some ⟨g, 0, none⟩) n cb)) = S2 := qS2
  have Y2 : Hid (S2.heap[w.heap.size]? = some (.cells #[.int .i64 st, .int .i64 sh, .int .i64 sd, .int .i64 sp, .int .i64 eu, .int .i64 es, .int .i64 eh, .int .i64 ea, .int .i64 en, .int .i64 fu, .int .i64 fs, .int .i64 fh, .int .i64 fa, .int .i64 fn, .slice (some ⟨g, 0, none⟩) n cb] 68)) := by
    rw [← qS2]
    refine (setAll_blk (w := w1) (g := w.heap.size) [.slice (some ⟨g, 0, none⟩) n cb] 14 Y1.out).trans ?_
    refine congrArg (fun z => some (Obj.cells z 68 (0, 0))) (Array.toList_inj.1 ?_)
    rw [overA_toList _ _ _ (by simp)]
    rfl
  have R2 : Hid (S2.heap[w.heap.size + 1]? = some (.cells #[.int .i64 0, .int .i64 0, .int .i64 0, .int .i64 0, .int .i64 0, .int .i64 0, .int .i64 0, .int .i64 0, .int .i64 0, .int .i64 0, .int .i64 0, .int .i64 0, .int .i64 0, .int .i64 0, .slice none 0 0] 68)) := by rw [← qS2]; exact setAll_away (by omega) _ _ R1.out
  have K2 : Hid (Below w.heap.size w S2) := by rw [← qS2]; exact setAll_below (g := w.heap.size) (by omega) [.slice (some ⟨g, 0, none⟩) n cb] 14 K1.out
  have zS2 : w1.heap.size = S2.heap.size := by rw [← qS2]; exact (setAll_size [.slice (some ⟨g, 0, none⟩) n cb] 14 _).symm
  clear qS2 Y1 R1 K1
  have MF : Hid (MadeE S2 w.heap.size 107 l g cb) := by
    rw [← hS2]
    exact M0.out.heap (setAll_off (g := w.heap.size) (by omega) [.slice (some ⟨g, 0, none⟩) n cb] 14)
  go_upto_region 2 with fail
  try rw [hS2]
  clear b0 b1 b2 b3 b4 b5 b6 b7 b8 b9 b10 b11 b12 b13 b14 bz0 bz1 bz2 bz3 bz4 bz5 bz6 bz7 bz8 bz9 bz10 bz11 bz12 bz13 bz14
  clear hS2
  go_wp2_with (first | (refine wpList_load_row rfl 68 _ rfl (w.heap.size) rfl 68 _ (0, 0) _ Y2.out Tryz.underlying68 rfl (by kernel_rfl) ?_) | (refine wpList_store_row rfl 68 _ _ rfl (w.heap.size + 1) #[.int .i64 st, .int .i64 sh, .int .i64 sd, .int .i64 sp, .int .i64 eu, .int .i64 es, .int .i64 eh, .int .i64 ea, .int .i64 en, .int .i64 fu, .int .i64 fs, .int .i64 fh, .int .i64 fa, .int .i64 fn, .slice (some ⟨g, 0, none⟩) n cb] rfl rfl 68 _ R2.out (by kernel_rfl) rfl (by simp [Value.oneCell']) ?_))
  exact row_ret (r := w.heap.size + 1) (cs := #[.int .i64 st, .int .i64 sh, .int .i64 sd, .int .i64 sp, .int .i64 eu, .int .i64 es, .int .i64 eh, .int .i64 ea, .int .i64 en, .int .i64 fu, .int .i64 fs, .int .i64 fh, .int .i64 fa, .int .i64 fn, .slice (some ⟨g, 0, none⟩) n cb]) rfl rfl (setRow_heap _ _ _ _ _ _ R2.out) Tryz.underlying68 rfl (by kernel_rfl) rfl ⟨g, cb, rfl, MF.out.heap (setRow_other _ _ _ _ (by omega)), below_setRow K2.out (by omega) _⟩

end Go.Proofs.YtioogmeghmeelaaGreat.Tx
namespace Go.Proofs.YtioogmeghmeelaaGreat.Tx
open Go.RowKit Go.Shelf
open Go.Lib (compareInt)
open Go.Sort (SWO Holds putRow PermIn SortedIn grow)

theorem infoDraw : (Tryz.prog.info? 118).map (fun i => (i.zero, i.size, i.bytes)) = some (some (.int .i64 0), 1, 8) := by kernel_rfl

set_option maxHeartbeats 1000000 in
theorem drawsOf_any (A : Option Addr) (n cap : Nat) (zs : List Int) (w : World) (h : Nums w w.heap.size A n zs) (hn : n ≤ 1048576) :
    Calls Tryz.prog 88 #[.slice A n cap] w fun e w' => e = .returned (.slice (some ⟨w.heap.size, 0, none⟩) n n) ∧ w'.rowIs w.heap.size 118 n (fun i => .int .i64 (zs[i]?.getD 0)) ∧ Below w.heap.size w w' := by
  obtain ⟨hlen, hcells⟩ := h
  have HC := Lib.hid hcells
  clear hcells hlen
  have hmk := run_make_row' (P := Tryz.prog) 126 118 (.int .i64 0) 8 Tryz.underlying126 infoDraw rfl .i64 .i64 n (by omega) (by omega)
  go_enter Tryz.func88, Tryz.ntmps88
  go_wp2
  clear hmk
  go_loopw [11] (fun i wr => ∃ k : Nat, k ≤ n ∧ i = .int .i64 k ∧ wr.rowIs w.heap.size 118 n (fun j => if j < k then .int .i64 (zs[j]?.getD 0) else .int .i64 0) ∧ Below w.heap.size w wr)
    (fun i _ => n - (intOf i).toNat)
  case atStart => exact ⟨0, Nat.zero_le _, rfl, (World.rowIs_made w _ n 118).congr (fun j _ => by simp), (Below.refl _ w).alloc (Nat.le_refl _) _⟩
  case round =>
    obtain ⟨k, hk, rfl, hrow, hB⟩ := hrel
    by_cases hlt : k < n
    · obtain ⟨b, off, rfl, hb, hc⟩ := HC.out (by omega)
      have hck := (hB.cell (p := ⟨b, off + k, none⟩) hb).trans (hc k hlt)
      have hst1 := hrow.cell hlt
      have hst2 := hrow.frozen k
      have HR := Lib.hid hrow
      clear hc hrow
      go_wp2
      go_roundw
      case rel =>
        refine ⟨k + 1, by omega, by go_num, (HR.out.set k _).congr (fun j hj => ?_), hB.setCell (p := ⟨w.heap.size, k, none⟩) (Nat.le_refl _) _⟩
        by_cases e : j = k
        · subst e; simp
        · by_cases hjk : j < k
          · simp only [e, hjk, if_true, if_false]; rw [if_pos (by omega)]
          · simp only [e, hjk, if_false]; rw [if_neg (by omega)]
      case measure => simp [intOf]; omega
    · obtain rfl : k = n := by omega
      have HR := Lib.hid hrow
      clear hrow
      go_wp2
      go_ret
      exact ⟨rfl, HR.out.congr (fun j hj => by rw [if_pos hj]), hB⟩

theorem compare_any (x y : Int) (W : World) : Calls Tryz.prog 90 #[.int .i64 x, .int .i64 y] W fun e w' => e = .returned (.int .i64 (compareInt x y)) ∧ ∃ q, w' = W.drewN q := by
  have hcon := AnyG.cmp_Compare_int cmpL x y W
  change Calls Tryz.prog 97 _ _ _ at hcon
  generalize compareInt x y = r at hcon ⊢
  go_enter Tryz.func90, Tryz.ntmps90
  go_wp2_with (go_at_call 97; refine hcon.mono ?_; rintro e w' ⟨rfl, rfl⟩)
  go_ret
  exact ⟨rfl, 0, rfl⟩

theorem lt_iff (x y : Int) : ltOf compareInt x y = decide (x < y) := by
  unfold ltOf compareInt
  by_cases h1 : x < y
  · simp [h1]
  · by_cases h2 : y < x <;> simp [h1, h2]
theorem swoC : SWO (ltOf compareInt) where
  irrefl x := by rw [lt_iff]; simp
  trans x y z h1 h2 := by rw [lt_iff] at *; simp at *; omega
  ntrans x y z h1 h2 := by rw [lt_iff] at *; simp at *; omega

theorem reads (blk off size : Nat) (w : World) : CmpReads Tryz.prog 90 #[] (Value.int .i64) compareInt blk off size w :=
  fun _ _ _ _ x y => compare_any x y _

set_option maxHeartbeats 1000000 in
theorem SortFunc_any (blk cap : Nat) (d : Array Int) (w : World) (hH : Holds (Value.int .i64) w blk 0 d) (hblk : blk < w.heap.size) (hsz : d.size ≤ 1048576) :
    Calls Tryz.prog 89 #[.slice (some ⟨blk, 0, none⟩) d.size cap, .func (.func 90) #[] #[]] w fun e w' =>
      e = .returned (.tuple #[]) ∧ ∃ d' n os, PermIn 0 d.size d d' ∧ SortedIn (ltOf compareInt) 0 d.size d' ∧ w' = sortWorld (Value.int .i64) w blk 0 n d' os := by
  have eg : ∀ args w, (callFunc 90 args).run Tryz.prog w = .ok (.enter 90 args) w := enters_of Tryz.func90 (by kernel_rfl) rfl
  have hlim : Lib.bitLen d.size < 4611686018427387904 := Nat.lt_of_le_of_lt (Lib.bitLen_le d.size 62 (by omega) (by omega)) (by omega)
  have hp := Any.pdqsortCmpFunc_all pdqL (Value.int .i64) compareInt 90 #[] swoC blk 0 cap d w eg (reads blk 0 d.size w).lays ⟨fun _ => rfl, hH, hblk⟩ (d.size + 1) 0 d.size (Lib.bitLen d.size) d w (by omega) rfl (SW.start hH) (Nat.zero_le _) (Nat.le_refl _) (by omega) hlim (Or.inl rfl)
  change Calls Tryz.prog 95 _ _ _ at hp
  have hl : Calls Tryz.prog 96 #[.int .u64 (d.size : Int)] w fun e w' => e = .returned (.int .i64 (Lib.bitLen d.size : Nat)) ∧ w' = w := by
    have h := Any.bits_Len (SlLaysF0.n15.bits lenL) (d.size : Int) w (by omega) (by omega)
    rw [Int.toNat_natCast] at h
    exact h
  have hs := Go.Sort.pdq_sorts (ltOf compareInt) swoC d 0 d.size (Lib.bitLen d.size) true true (Nat.zero_le _) (Nat.le_refl _) (Or.inl rfl)
  have HS := Lib.hid hs
  clear hs
  generalize Go.Sort.pdq (ltOf compareInt) d 0 d.size (Lib.bitLen d.size) true true = r at hp HS
  clear hH hlim
  generalize Lib.bitLen d.size = bl at hp hl
  have HSZ := hsz
  generalize d.size = m at hp hl HS hsz ⊢
  clear HSZ
  go_enter Tryz.func89, Tryz.ntmps89
  go_wp2_with (first | (go_at_call 96; refine hl.mono ?_; rintro e w' ⟨rfl, rfl⟩) | (go_at_call 95; refine hp.mono ?_; rintro e w' ⟨rfl, n, os, rfl⟩))
  go_end0
  exact ⟨rfl, r, n, os, HS.out.1, HS.out.2, rfl⟩

end Go.Proofs.YtioogmeghmeelaaGreat.Tx
namespace Go.Proofs.YtioogmeghmeelaaGreat.Tx
open Go.RowKit Go.Shelf

attribute [local go_sem] Oper.semAt_some

/-- No two that stand side by side among the first k are alike. -/
def apartTo (zs : List Int) (k : Nat) : Prop := ∀ j, j + 1 < k → zs[j]?.getD 0 ≠ zs[j + 1]?.getD 0

/-- What a round does: it goes on where x and y differ, and all is as it was; else it has come to St. -/
def Round2 (F : Fence) (n : Nat) (l : Nat) (St : World → World → Prop) (W : World) : Prop :=
  ∀ (q : Nat) (x y : Int), YieldAt F n Tryz.prog l #[.int .i64 x, .int .i64 y] (W.drewN q) fun e W' =>
    e = .returned (.bool (!decide (x = y))) ∧ ((x ≠ y ∧ W' = W.drewN q) ∨ (x = y ∧ St (W.drewN q) W'))

set_option maxRecDepth 100000 in
set_option maxHeartbeats 2000000 in
theorem neighbours_in (n : Nat) (hn : 1 ≤ n) (l : Nat) (A : Option Addr) (len cap : Nat) (zs : List Int) (hlen : len ≤ 1048576)
    (St : World → World → Prop) (W : World) (hY : Round2 Fence.wide (n - 1) l St W) (hS : Nums W W.heap.size A len zs) :
    CallsIn Fence.wide n Tryz.prog 91 #[.slice A len cap, .func (.yield l) #[] #[]] W fun e W' => (∃ v, e = .returned v) ∧
      ((apartTo zs len ∧ ∃ q, W' = W.drewN q) ∨ (¬ apartTo zs len ∧ ∃ q, St (W.drewN q) W')) := by
  have HS := Lib.hid hS
  clear hS
  refine callsIn_of_wp Tryz.func91 rfl trivial ?_ rfl
  simp only [Tryz.ntmps91, List.size_toArray, List.length_cons, List.length_nil, Nat.reduceAdd, Nat.reduceSub, Array.replicate_succ, Array.replicate_zero, List.push_toArray, List.append_toArray, List.nil_append, List.cons_append]
  gi_wp2
  gi_loopw [4] (fun i wr => ∃ (k q : Nat), i = .int .i64 ((k : Int) + 1) ∧ k ≤ len ∧ apartTo zs (k + 1) ∧ wr = W.drewN q)
    (fun i _ => len + 2 - (intOf i).toNat)
  case atStart => exact ⟨0, 0, rfl, Nat.zero_le _, fun j h => absurd h (by omega), rfl⟩
  case round =>
    obtain ⟨k, q, rfl, hk, hap, hq⟩ := hrel
    have HP := Lib.hid hap
    have HQ := Lib.hid hq
    clear hap hq
    by_cases hlt : k + 1 < len
    · obtain ⟨b, off, rfl, hb, hc⟩ := HS.out.2 (by omega)
      obtain ⟨x, hx⟩ : ∃ x, x = zs[k]?.getD 0 := ⟨_, rfl⟩
      obtain ⟨y, hy⟩ : ∃ y, y = zs[k + 1]?.getD 0 := ⟨_, rfl⟩
      have c1 : wr.cell? ⟨b, off + k, none⟩ = some (.int .i64 x) := by rw [HQ.out, hx]; exact hc k (by omega)
      have c2 : wr.cell? ⟨b, off + (k + 1), none⟩ = some (.int .i64 y) := by rw [HQ.out, hy]; exact hc (k + 1) hlt
      have HX := Lib.hid hx
      have HY := Lib.hid hy
      have hR := hY (q + 1) x y
      have hw1 : W.drewN (q + 1) = wr.drew := by rw [HQ.out]; rfl
      rw [hw1] at hR
      clear hx hy hc hw1
      obtain ⟨fn, tmps, assign, body, hyl, hR⟩ := hR
      have hmx : Tryz.prog.follows .mixedOrders = true := by kernel_rfl
      have i0 : (0 : Int) ≤ (k : Int) := by omega
      have i1 : (k : Int) < (len : Int) := by omega
      have i2 : (0 : Int) ≤ (k : Int) + 1 := by omega
      have i3 : (k : Int) + 1 < (len : Int) := by omega
      have e1 : IntKind.i64.wrap (k : Int) = (k : Int) := IntWalk.i64_in _ (by omega)
      by_cases hxy : x = y
      · have hR2 := hR.mono (R' := fun e W' => e = .returned (.bool false) ∧ Hid (St wr.drew W')) (by
          rintro e w' ⟨rfl, h⟩
          exact ⟨by simp [hxy], (h.resolve_left (fun c => c.1 hxy)).2⟩)
        have HN : Hid (¬ apartTo zs len) := fun h => h k hlt (HX.out.symm.trans (hxy.trans HY.out))
        clear hR hxy
        gi_wp2
        gi_region_with_o (refine hR2.mono ?_; rintro e w' ⟨rfl, hw'⟩)
        all_goals gi_wp2
        all_goals (refine bodyPost_ret (results_none rfl _ _ _) rfl ?_)
        all_goals exact ⟨⟨_, rfl⟩, .inr ⟨HN.out, q + 1, by have := hw'.out; rw [HQ.out] at this; exact this⟩⟩
      · have hR2 := hR.mono (R' := fun e W' => e = .returned (.bool true) ∧ W' = wr.drew) (by
          rintro e w' ⟨rfl, h⟩
          exact ⟨by simp [hxy], (h.resolve_right (fun c => hxy c.1)).2⟩)
        have HN : Hid (apartTo zs (k + 1 + 1)) := fun j hj => by
          by_cases e : j = k
          · subst e; exact fun h => hxy (HX.out.trans (h.trans HY.out.symm))
          · exact HP.out j (by omega)
        clear hR hxy
        gi_wp2
        gi_region_with_o (refine hR2.mono ?_; rintro e w' ⟨rfl, rfl⟩)
        all_goals gi_wp2
        all_goals go_roundw
        case rel => exact ⟨k + 1, q + 1, by go_num, by omega, HN.out, by rw [HQ.out]; rfl⟩
        case measure => simp [intOf]; omega
        case rel => exact ⟨k + 1, q + 1, by go_num, by omega, HN.out, by rw [HQ.out]; rfl⟩
        case measure => simp [intOf]; omega
    · have HN : Hid (apartTo zs len) := fun j hj => HP.out j (by omega)
      gi_wp2
      go_end0
      exact ⟨⟨_, rfl⟩, .inl ⟨HN.out, q, HQ.out⟩⟩

end Go.Proofs.YtioogmeghmeelaaGreat.Tx
namespace Go.Proofs.YtioogmeghmeelaaGreat.Tx
open Go.RowKit

theorem put_put (W : World) (l : Nat) (o o' : Obj) : (W.putObj l o).putObj l o' = W.putObj l o' := by
  simp [World.putObj]
theorem put_same (W : World) (l : Nat) (o : Obj) (h : W.heap[l]? = some o) : W.putObj l o = W := by
  obtain ⟨hl, he⟩ := Array.getElem?_eq_some_iff.1 h
  unfold World.putObj
  congr 1
  apply Array.ext_getElem?
  intro i
  rw [Array.getElem?_setIfInBounds]
  by_cases e : l = i
  · subst e; rw [if_pos rfl, if_pos hl, h]
  · rw [if_neg e]

/-- How such a body may be left. -/
def quietPost (go : Bool) (B : Nat) (v : Value) (W : World) : Exit → Act → World → Prop
  | .normal, _, W' => go = true ∧ W' = W
  | .ret, _, W' => go = false ∧ W' = W.setCell ⟨B, 0, none⟩ v
  | .exit _, _, _ => False
  | .goto _, _, _ => False
  | .panic _, _, _ => False
  | .outgrown, _, _ => False

/-- What the iterator does, whatever a round that says no has come to (St): it goes through; or it is told to stop. -/
def Walks {α : Type} (n : Nat) (P : Program) (gf : Nat) (bd : Array Value) (encs : α → Array Value) (go : α → Bool) (S Sx : Prop) (w : World) : Prop :=
  ∀ (l : Nat) (St : World → World → Prop) (W : World), Below w.heap.size w W →
    (∀ q x, YieldAt Fence.wide (n - 1) P l (encs x) (W.drewN q) fun e W' => e = .returned (.bool (go x)) ∧ ((go x = true ∧ W' = W.drewN q) ∨ (go x = false ∧ St (W.drewN q) W'))) →
    CallsIn Fence.wide n P gf (bd ++ #[.func (.yield l) #[] #[]]) W fun e W' => (∃ v, e = .returned v) ∧ ((S ∧ ∃ q, W' = W.drewN q) ∨ (Sx ∧ ∃ q, St (W.drewN q) W'))

theorem range_bound {α : Type} {P : Program} {n : Nat} {g : Operand} {ps : Array Tmp} {assign body : Code} {Q : Exit → Act → World → Prop} {a : Act} {w : World}
    (h1 : 1 ≤ n) {gf : Nat} {bd : Array Value} (hg : a.eval g = .func (.func gf) bd #[]) (eg : ∀ args w, (callFunc gf args).run P w = .ok (.enter gf args) w)
    {encs : α → Array Value} (hps : ∀ x, (encs x).size = ps.size) {go : α → Bool} {S Sx : Prop} (hit : Walks (n - 1) P gf bd encs go S Sx w) (a₁ : α → Act) (B : Nat) (v : Value) (hB : B < w.heap.size)
    (hassign : ∀ (l : Nat) (x : α) (W : World) (K : Act → World → Prop), K (a₁ x) W →
      assign.wpIn (Fence.wide.inRound l) (n - 1 - 1) P (Exit.then K (fun _ _ _ => False)) { tmps := (ps.zip (encs x)).foldl (fun t (p, v) => t.setIfInBounds p v) a.tmps, defers := [] } W)
    (hbody : ∀ (l : Nat) (x : α) (W : World), Below w.heap.size w W → body.wpIn (Fence.wide.inRound l) (n - 1 - 1) P (quietPost (go x) B v W) (a₁ x) W)
    (hdone : ∀ (D : Nat) (W : World), w.heap.size ≤ D → S → Below w.heap.size w W → W.heap[D]? = some (.deferred (some [])) → Q .normal { a with defers := { target := .collected D, args := #[] } :: a.defers } W)
    (hstop : ∀ (D : Nat) (W : World), w.heap.size ≤ D → Sx → Below w.heap.size (w.setCell ⟨B, 0, none⟩ v) W → W.heap[D]? = some (.deferred (some [])) → Code.ret.wpIn Fence.wide n P Q { a with defers := { target := .collected D, args := #[] } :: a.defers } W) :
    (Code.rangeFunc g ps assign body).wpIn Fence.wide n P Q a w := by
  refine wpIn_rangeFunc ?_
  intro fn hfn
  obtain ⟨rc, hrc⟩ : ∃ rc : LoopState → Option Code → Loop, rc = fun st pe => { state := st, pending := pe, fn, tmps := a.tmps, params := ps, assign, body, defers := w.heap.size } := ⟨_, rfl⟩
  obtain ⟨W1, hW1⟩ : ∃ W1, W1 = (w.alloc (.deferred (some []))).alloc (.loop (rc .ready none)) := ⟨_, rfl⟩
  have hb1 : Below w.heap.size w W1 := by rw [hW1]; exact ((Below.refl _ w).alloc (Nat.le_refl _) _).alloc (by simp) _
  have hl1 : W1.heap[w.heap.size + 1]? = some (.loop (rc .ready none)) := by
    rw [hW1]; have h := World.alloc_heap_new (w.alloc (.deferred (some []))) (.loop (rc .ready none)); rwa [World.size_alloc] at h
  have hd1 : W1.heap[w.heap.size]? = some (.deferred (some [])) := by
    rw [hW1]; exact (Below.heap_alloc _ _ _ (by simp)).trans (World.alloc_heap_new w _)
  have hlt1 : w.heap.size + 1 < W1.heap.size := (Array.getElem?_eq_some_iff.1 hl1).1
  refine ⟨w.heap.size + 1, [{ target := .collected w.heap.size, args := #[] }], W1, { target := .fn (.func gf) #[], args := bd ++ #[.func (.yield (w.heap.size + 1)) #[] #[]] }, W1, gf, bd ++ #[.func (.yield (w.heap.size + 1)) #[] #[]], W1, ?_, ?_, ?_, ?_, fun _ => h1, ?_⟩
  · rw [hW1, hrc]; exact run_enterLoop_outer _ _ _ _ _
  · simp only [resolve, hg]
    simp [go_sem]
  · intro f' _; trivial
  · simp [invoke, eg]
  · refine (hit (w.heap.size + 1) (fun A A' => A' = ((A.putObj (w.heap.size + 1) (.loop (rc .busy none))).setCell ⟨B, 0, none⟩ v).putObj (w.heap.size + 1) (.loop (rc .done (some .ret)))) W1 hb1 ?_).mono ?_
    · intro q x
      have hl : (W1.drewN q).heap[w.heap.size + 1]? = some (.loop (rc .ready none)) := hl1
      have hy := run_yield (P := P) (args := encs x) hl (by rw [hrc]; exact hps x)
      have hbg := run_beginRound (P := P) hl (by rw [hrc])
      have hlB : ((W1.drewN q).putObj (w.heap.size + 1) (.loop (rc .busy none))).heap[w.heap.size + 1]? = some (.loop (rc .busy none)) := World.putObj_heap_same hlt1
      have hbel : Below w.heap.size w ((W1.drewN q).putObj (w.heap.size + 1) (.loop (rc .busy none))) :=
        ⟨hb1.os, hb1.tape, hb1.output, by rw [World.putObj]; simpa using hb1.size, fun k hk => (World.putObj_heap_other (by omega)).trans (hb1.block k hk)⟩
      have hw := hbody (w.heap.size + 1) x _ hbel
      rw [hrc] at hy hbg
      refine ⟨fn, _, assign, body, hy, roundIn_of_wpIn hfn (hassign _ x _ _ ⟨_, hbg, ?_⟩)⟩
      rw [hrc] at hw
      refine wpIn_mono hw ?_
      intro e a3 W3 hp
      cases e with
      | normal =>
        obtain ⟨hgo, rfl⟩ := hp
        rw [hrc] at hlB
        have hr := run_endRound (P := P) none hlB
        refine ⟨_, _, hr, by rw [hgo]; rfl, .inl ⟨hgo, ?_⟩⟩
        rw [put_put]
        exact put_same _ _ _ (by rw [hrc] at hl; exact hl)
      | ret =>
        obtain ⟨hgo, rfl⟩ := hp
        rw [hrc] at hlB
        have hr := run_endRound (P := P) (some .ret) ((Below.heap_setCell _ ⟨B, 0, none⟩ v _ (by show w.heap.size + 1 ≠ B; omega)).trans hlB)
        exact ⟨_, _, hr, by rw [hgo]; rfl, .inr ⟨hgo, by rw [hrc]; rfl⟩⟩
      | exit id => exact hp.elim
      | goto t => exact hp.elim
      | panic ch => exact hp.elim
      | outgrown => exact hp.elim
    · rintro e W2 ⟨⟨r, rfl⟩, (⟨hS, q, rfl⟩ | ⟨hSx, q, rfl⟩)⟩
      · have hl : (W1.drewN q).heap[w.heap.size + 1]? = some (.loop (rc .ready none)) := hl1
        refine ⟨none, _, by have := run_endLoop (P := P) hl (by rw [hrc]; simp); rw [hrc] at this; exact this, ?_⟩
        refine hdone w.heap.size _ (Nat.le_refl _) hS ?_ ((World.putObj_heap_other (by omega)).trans hd1)
        exact ⟨hb1.os, hb1.tape, hb1.output, by simpa using hb1.size, fun k hk => (World.putObj_heap_other (by omega)).trans (hb1.block k hk)⟩
      · have hs3 : w.heap.size + 1 < (((W1.drewN q).putObj (w.heap.size + 1) (.loop (rc .busy none))).setCell ⟨B, 0, none⟩ v).heap.size := by simpa using hlt1
        have hpe : (rc .done (some .ret)).pending = some .ret := by rw [hrc]
        have hel := run_endLoop (P := P) (World.putObj_heap_same hs3 (o := .loop (rc .done (some .ret)))) (by rw [hrc]; simp)
        rw [hpe] at hel
        refine ⟨some .ret, _, hel, ?_⟩
        refine hstop w.heap.size _ (Nat.le_refl _) hSx ?_ ?_
        · refine ⟨hb1.os, hb1.tape, hb1.output, by simpa using hb1.size, fun k hk => ?_⟩
          refine (World.putObj_heap_other (by omega)).trans ((World.putObj_heap_other (by omega)).trans ?_)
          simp only [World.setCell, Array.getElem?_modify]
          rw [World.putObj_heap_other (by omega), show (W1.drewN q).heap[k]? = w.heap[k]? from hb1.block k hk]
        · refine (World.putObj_heap_other (by omega)).trans ((World.putObj_heap_other (by omega)).trans ((Below.heap_setCell _ _ _ _ (by show w.heap.size ≠ B; omega)).trans ((World.putObj_heap_other (by omega)).trans hd1)))

end Go.Proofs.YtioogmeghmeelaaGreat.Tx
namespace Go.Proofs.YtioogmeghmeelaaGreat.Tx
open Go.RowKit Go.Shelf
open Go.Lib (compareInt)
open Go.Sort (Holds PermIn SortedIn)

attribute [local go_sem] Oper.semAt_some


theorem pairs_walk (n : Nat) (hn : 1 ≤ n) (A : Option Addr) (len cap : Nat) (zs : List Int) (hlen : len ≤ 1048576) (w : World) (hS : Nums w w.heap.size A len zs) :
    Walks n Tryz.prog 91 #[.slice A len cap] (fun p : Int × Int => #[.int .i64 p.1, .int .i64 p.2]) (fun p => !decide (p.1 = p.2)) (apartTo zs len) (¬ apartTo zs len) w := fun l St W hb hY =>
  neighbours_in n hn l A len cap zs hlen St W (fun q x y => (hY q (x, y)).mono fun e W' ⟨he, h⟩ => ⟨he, by
    by_cases hxy : x = y
    · exact .inr ⟨hxy, by simpa [hxy] using h⟩
    · exact .inl ⟨hxy, by simpa [hxy] using h⟩⟩) ((hS.below hb).mono hb.size)

theorem sorted_le {d : Array Int} {n : Nat} (h : SortedIn (ltOf compareInt) 0 n d) (hn : d.size = n) {i j : Nat} (hij : i < j) (hj : j < n) : d.toList[i]?.getD 0 ≤ d.toList[j]?.getD 0 := by
  have h1 := h i j (Nat.zero_le _) hij hj
  rw [lt_iff, decide_eq_false_iff_not] at h1
  rw [Array.getElem?_toList, Array.getElem?_toList, Array.getElem?_eq_getElem (by omega), Array.getElem?_eq_getElem (by omega)]
  simp only [Option.getD_some]
  rw [getElem!_pos _ _ (by omega), getElem!_pos _ _ (by omega)] at h1
  omega

theorem nodup_getD {l : List Int} : l.Nodup ↔ ∀ i j, i < j → j < l.length → l[i]?.getD 0 ≠ l[j]?.getD 0 := by
  rw [List.nodup_iff_pairwise_ne, List.pairwise_iff_getElem]
  constructor
  · intro h i j hij hj
    rw [List.getElem?_eq_getElem (by omega), List.getElem?_eq_getElem hj]
    exact h i j (by omega) hj hij
  · intro h i j hi hj hij
    have := h i j hij hj
    rw [List.getElem?_eq_getElem hi, List.getElem?_eq_getElem hj] at this
    exact this

theorem apart_iff {d : Array Int} {n : Nat} (h : SortedIn (ltOf compareInt) 0 n d) (hn : d.size = n) : apartTo d.toList n ↔ d.toList.Nodup := by
  have hl : d.toList.length = n := by simpa using hn
  rw [nodup_getD]
  constructor
  · intro ha i j hij hj
    have h1 := ha i (by omega)
    have h2 : d.toList[i]?.getD 0 ≤ d.toList[i + 1]?.getD 0 := sorted_le h hn (by omega) (by omega)
    by_cases e : j = i + 1
    · rw [e]; exact h1
    · have h3 : d.toList[i + 1]?.getD 0 ≤ d.toList[j]?.getD 0 := sorted_le h hn (by omega) (by omega)
      omega
  · intro ha j hj
    exact ha j (j + 1) (by omega) (by omega)

set_option maxRecDepth 100000 in
set_option maxHeartbeats 2000000 in
theorem AllUnlike_in (A : Option Addr) (n cap : Nat) (zs : List Int) (w : World) (h : Nums w w.heap.size A n zs) (hn : n ≤ 1048576) :
    CallsIn Fence.wide 4 Tryz.prog 78 #[.slice A n cap] w fun e w' => e = .returned (.bool (unlikeB zs)) ∧ Below w.heap.size w w' := by
  have bR := Boxed.new w 4 (.bool false)
  have hB0 : Below w.heap.size w (w.alloc (.cells #[.bool false] 4)) := (Below.refl _ w).alloc (Nat.le_refl _) _
  have hN0 : Nums (w.alloc (.cells #[.bool false] 4)) (w.alloc (.cells #[.bool false] 4)).heap.size A n zs := (h.below hB0).mono hB0.size
  have hd := callsIn_wide (n := 3) |>.2 (drawsOf_any A n cap zs _ hN0 hn)
  have HL := Lib.hid h.1
  clear hN0 h
  refine callsIn_of_wp_marks Tryz.func78 rfl trivial ?_ rfl
  simp only [Tryz.ntmps78, List.size_toArray, List.length_cons, List.length_nil, Nat.reduceAdd, Nat.reduceSub, Array.replicate_succ, Array.replicate_zero, List.push_toArray, List.append_toArray, List.nil_append, List.cons_append]
  gi_wp2_with (refine ⟨trivial, ?_⟩; gi_at_call 88; refine hd.mono ?_; rintro e w1 ⟨rfl, hrow, hb1⟩)
  rw [World.size_alloc] at hrow hb1
  have hz : zs.toArray.size = n := by simpa using HL.out
  have hH : Holds (Value.int .i64) w1 (w.heap.size + 1) 0 zs.toArray := fun j hj => by
    have hj' : j < n := by rw [← hz]; exact hj
    refine ⟨?_, by rw [Nat.zero_add]; exact hrow.frozen j⟩
    have hl : j < zs.length := by simpa using hj
    rw [Nat.zero_add, hrow.cell hj', getElem!_pos zs.toArray j hj, List.getElem?_eq_getElem hl]
    simp
  have hs := callsIn_wide (n := 3) |>.2 (SortFunc_any (w.heap.size + 1) n zs.toArray w1 hH hrow.lt (by rw [hz]; exact hn))
  rw [hz] at hs
  have HH := Lib.hid hH
  have HB1 := Lib.hid hb1
  have hlt1 := hrow.lt
  clear hrow hH hd hb1
  gi_wp2_with (refine ⟨trivial, ?_⟩; gi_at_call 89; refine hs.mono ?_; rintro e w2 ⟨rfl, d', m, os, hp, hso, hw2⟩; have HW := Lib.hid hw2; clear hw2)
  clear hs
  have hsz : d'.size = n := hp.1.trans hz
  have hb2 : Below (w.heap.size + 1) w1 w2 := by
    rw [HW.out]
    unfold sortWorld
    have h1 : Below (w.heap.size + 1) w1 (Go.Sort.putRow (Value.int .i64) (Go.Sort.ahead w1 m) (w.heap.size + 1) 0 d') := Go.Lib.below_putRow (Below.refl _ _) (Nat.le_refl _)
    exact ⟨h1.os, h1.tape, h1.output, by have := h1.size; simp [Go.Sort.grow] at this ⊢, fun k hk => (Go.Sort.heap_grow_old _ _ (by have := h1.size; omega)).trans (h1.block k hk)⟩
  have hN2 : Nums w2 w2.heap.size (some ⟨w.heap.size + 1, 0, none⟩) n d'.toList := by
    have hlt2 : w.heap.size + 1 < w2.heap.size := Nat.lt_of_lt_of_le hlt1 hb2.size
    refine ⟨by simpa using hsz, fun _ => ⟨w.heap.size + 1, 0, rfl, hlt2, fun j hj => ?_⟩⟩
    have h0 := Go.Sort.holds_putRow (Value.int .i64) (Go.Sort.ahead w1 m) (w.heap.size + 1) 0 zs.toArray d' (Go.Sort.holds_ahead _ _ _ _ _ _ HH.out) hp.1 j (by omega)
    rw [HW.out]
    unfold sortWorld
    rw [Go.Sort.cell?_grow _ _ _ (by have := World.block_lt_of_cell? _ _ h0.1; exact this), h0.1, Array.getElem?_toList, Array.getElem?_eq_getElem (by omega), getElem!_pos _ _ (by omega)]
    rfl
  have hiff : apartTo d'.toList n ↔ zs.Nodup := by
    rw [apart_iff hso hsz]
    have hpp := hp.2.2
    rw [Array.extract_eq_self_of_le (by omega), Array.extract_eq_self_of_le (by omega)] at hpp
    exact hpp.nodup_iff
  have HI := Lib.hid hiff
  have bR2 : Boxed w2 w.heap.size 4 (.bool false) := (hb2.block _ (by omega)).trans ((HB1.out.block _ (by omega)).trans bR)
  have hB2 : Below w.heap.size w w2 := hB0.trans ((HB1.out.mono (by omega)).trans (hb2.mono (by omega)))
  clear hiff hp hso hb2 hB0 bR
  refine range_bound (by decide) (gf := 91) (bd := #[.slice (some ⟨w.heap.size + 1, 0, none⟩) n n]) rfl (enters_of Tryz.func91 (by kernel_rfl) rfl) (fun _ => rfl) (pairs_walk 3 (by decide) _ n n d'.toList hn w2 hN2)
    (fun p => { tmps := #[.slice A n cap, undef, .pointer (some ⟨w.heap.size, 0, none⟩), .slice (some ⟨w.heap.size + 1, 0, none⟩) n n, .int .i64 p.1, .int .i64 p.2, .slice A n cap, .slice (some ⟨w.heap.size + 1, 0, none⟩) n n, .slice (some ⟨w.heap.size + 1, 0, none⟩) n n, .tuple #[], .slice (some ⟨w.heap.size + 1, 0, none⟩) n n, .func (.func 91) #[.slice (some ⟨w.heap.size + 1, 0, none⟩) n n] #[], .int .i64 p.1, .int .i64 p.2, undef, undef, undef], defers := [] }) w.heap.size (.bool false) bR2.lt ?assign ?body ?done ?stop
  case assign =>
    intro l x W K hK
    gi_wp2
    exact hK
  case body =>
    rintro l ⟨x, y⟩ W hb
    have b3 : Boxed W w.heap.size 4 (.bool false) := (hb.block _ bR2.lt).trans bR2
    have hc := b3.cell
    have hf := b3.frozen
    by_cases hxy : x = y
    · subst hxy
      gi_wp2
      exact ⟨by simp, rfl⟩
    · have hne : (x == y) = false := by rw [beq_eq_false_iff_ne]; exact hxy
      have HX := Lib.hid hxy
      clear hxy
      gi_wp2
      exact ⟨by simpa using HX.out, rfl⟩
  case done =>
    rintro D W hD hS hB hK
    have b3 : Boxed W w.heap.size 4 (.bool false) := (hB.block _ bR2.lt).trans bR2
    have hc := b3.cell
    have hf := b3.frozen
    have HU : Hid (unlikeB zs = true) := decide_eq_true (HI.out.1 hS)
    clear hS
    gi_wp2
    have hK' := (KeepsOthers.setCell W ⟨w.heap.size, 0, none⟩ (.bool true)).same D _ hK rfl
    refine ⟨by simp, .inl ⟨_, _, rfl, run_takeDeferred hK', ?_⟩⟩
    have hc5 := cell_kept (World.cell?_setCell_same' W ⟨w.heap.size, 0, none⟩ (.bool true) (by rw [hc]; rfl)) (grownBy_putObj' _ D (.deferred none)) (fun r e => by cases e; exact ⟨_, hK', rfl⟩)
    have hB3 : Below w.heap.size w W := hB2.trans (hB.mono hB2.size)
    refine ⟨.bool true, ?_, by rw [HU.out], (hB3.setCell (p := ⟨w.heap.size, 0, none⟩) (Nat.le_refl _) _).trans (belowK_b (w := w) (Nat.le_refl _) _ D _ _ (by have := hB2.size; omega) hK' rfl rfl)⟩
    simp [results, Tryz.f78, go_sem, hc5]
  case stop =>
    rintro D W hD hSx hB hK
    have b3 : Boxed W w.heap.size 4 (.bool false) := (hB.block _ bR2.lt).trans (bR2.set _)
    have hc := b3.cell
    have HU : Hid (unlikeB zs = false) := decide_eq_false (fun h => hSx (HI.out.2 h))
    clear hSx
    gi_wp2
    refine ⟨by simp, .inl ⟨_, _, rfl, run_takeDeferred hK, ?_⟩⟩
    have hc5 := cell_kept hc (grownBy_putObj' _ D (.deferred none)) (fun r e => by cases e; exact ⟨_, hK, rfl⟩)
    have hB3 : Below w.heap.size w W := (hB2.setCell (p := ⟨w.heap.size, 0, none⟩) (Nat.le_refl _) _).trans (hB.mono hB2.size)
    refine ⟨.bool false, ?_, by rw [HU.out], hB3.trans (belowK_b (w := w) (Nat.le_refl _) W D _ _ (by have := hB2.size; omega) hK rfl rfl)⟩
    simp [results, Tryz.f78, go_sem, hc5]

theorem AllUnlike_impl (A : Option Addr) (n cap : Nat) (zs : List Int) (w : World) (h : Nums w w.heap.size A n zs) (hn : n ≤ 1048576) :
    Calls Tryz.prog 78 #[.slice A n cap] w fun e w' => e = .returned (.bool (unlikeB zs)) ∧ Below w.heap.size w w' :=
  (callsIn_wide (n := 4)).1 (AllUnlike_in A n cap zs w h hn)

end Go.Proofs.YtioogmeghmeelaaGreat.Tx
namespace Go.Proofs.YtioogmeghmeelaaGreat.Tx
open Go.RowKit Go.Maps
open Go.ChangeMaps Go.MapKept Go.WideElems

theorem keyed : Keyed Tryz.prog 2 := int_keyed Tryz.underlying2
theorem zeroInt (w : World) : (zeroValue 3).run Tryz.prog w = .ok (.int .i64 0) w := by kernel_rfl
/-- Block b is the map of the places of zs. -/
def Places (w : World) (b : Nat) (zs : List Int) : Prop := w.ownsMap (H := Unit) Tryz.prog 2 (plainElem Tryz.prog 3) b zs.length (placesD zs zs.length)
theorem Places.lt {w : World} {b : Nat} {zs : List Int} (h : Places w b zs) : b < w.heap.size := World.ownsMap.lt h
theorem Places.kept {w w' : World} {b : Nat} {zs : List Int} {row : Option Nat} (h : Places w b zs) (hg : w.grownBy w' row) (hne : some b ≠ row) : Places w' b zs := World.ownsMap.kept h hg hne
theorem Places.on {w w' : World} {b : Nat} {zs : List Int} (h : Places w b zs) (hb : Below w.heap.size w w') : Places w' b zs := h.kept (row := none) ⟨hb.os, hb.tape, hb.output, hb.size, fun i hi _ => hb.block i hi⟩ (by simp)
theorem Places.alloc {w : World} {b : Nat} {zs : List Int} (h : Places w b zs) (o : Obj) : Places (w.alloc o) b zs := World.ownsMap.alloc h o

set_option maxHeartbeats 1000000 in
theorem placesOf_any (A : Option Addr) (n cap : Nat) (zs : List Int) (w : World) (h : Nums w w.heap.size A n zs) (hi : AllI64 zs) (hn : n ≤ 1048576) :
    Calls Tryz.prog 66 #[.slice A n cap] w fun e w' => e = .returned (.map (some w.heap.size)) ∧ Places w' w.heap.size zs ∧ Below w.heap.size w w' := by
  obtain ⟨hlen, hcells⟩ := h
  have HC := Lib.hid hcells
  have HL := Lib.hid hlen
  have HI := Lib.hid hi
  clear hcells hlen hi
  have hmm := @run_makeMap Tryz.prog
  go_enter Tryz.func66, Tryz.ntmps66
  go_wp2
  clear hmm
  go_loopw [9] (fun i wr => ∃ k : Nat, k ≤ n ∧ i = .int .i64 k ∧ wr.ownsMap (H := Unit) Tryz.prog 2 (plainElem Tryz.prog 3) w.heap.size k (placesD zs k) ∧ Below w.heap.size w wr) (fun i _ => n - (intOf i).toNat)
  case atStart => exact ⟨0, Nat.zero_le _, rfl, World.ownsMap_made _ _ _ _, (Below.refl _ _).alloc (Nat.le_refl _) _⟩
  case round =>
    obtain ⟨k, hk, rfl, hown, hB⟩ := hrel
    by_cases hlt : k < n
    · obtain ⟨b, off, rfl, hb, hc⟩ := HC.out (by omega)
      have hck := (hB.cell (p := ⟨b, off + k, none⟩) hb).trans (hc k hlt)
      obtain ⟨x, hx⟩ : ∃ x, x = zs[k]?.getD 0 := ⟨_, rfl⟩
      have hkey : keyOf Tryz.prog 2 (.int .i64 x) = some (.int .i64 x) := keyOf_int_mk Tryz.underlying2 (hx ▸ HI.out.at k)
      rw [← hx] at hck
      have HX := Lib.hid hx
      have HB := Lib.hid hB
      clear hc hx hB
      go_wp2_with (at_mapUpdate; refine wpList_mapUpdate_own _ rfl _ _ _ 78 rfl 2 3 keyed Tryz.underlying78 _ w.heap.size k _ rfl hown (by unfold maxLen; omega) _ _ _ rfl rfl hkey _ [] (plainElem_int Tryz.underlying3 (WalkArith.wf_i64 (by omega))) ?_; intro w1 hown1 hgrow1)
      go_roundw
      case rel => exact ⟨k + 1, by omega, by go_num, by rw [placesD, ← HX.out]; exact hown1, HB.out.grown hgrow1 HB.out.size (fun j hj => by cases hj; exact Nat.le_refl _)⟩
      case measure => simp [intOf]; omega
    · obtain rfl : k = n := by omega
      have HO := Lib.hid hown
      clear hown
      go_wp2
      go_ret
      exact ⟨rfl, by unfold Places; rw [HL.out]; exact HO.out, hB⟩

theorem size_all {zs : List Int} (hd : zs.Nodup) : Maps.size (placesD (H := Unit) zs zs.length) = zs.length := size_places hd _ (Nat.le_refl _)

/-- clear(m). -/
theorem clear_own {P : Program} {k e t : TypeId} {R : Value → Option (DataW Unit × List MemPlace)} {w : World} {b n : Nat} {D : DataW Unit} (h : w.ownsMap P k R b n D) (ht : P.underlying t = some (.map k e)) (ty : TypeId) :
    ∃ w', (Builtin.clear_ #[t] ty #[.map (some b)]).run P w = .ok (.tuple #[]) w' ∧ w'.ownsMap P k R b 0 (.map []) ∧ w.mapTurned w' b := by
  obtain ⟨es, clock, hb, F, hs, rfl⟩ := h
  exact ⟨setBlock w b (.map #[] clock), by simp [Builtin.clear_, run_underlying ht, MapKept.run_getObj_map hb, MapKept.run_setObj_map _ hb, Result.andThen, setBlock], ⟨#[], clock, heap_setBlock_same hb _, ⟨by simp, stamped_empty _, by simp⟩, Nat.le_refl _, rfl⟩, ⟨es, clock, #[], clock, hb, rfl⟩⟩
theorem wpList_clear_own {P : Program} (w : World) {ops : Array Oper} {rest : List Oper} {o : Oper} {a : Act} {Q : Exit → Act → World → Prop} (hg : o.guard = none) (m : Operand) (t : TypeId) (hop : o.op = Op.call { callee := Callee.builtin Builtin.clear, args := #[m], argTypes := #[t] })
    (k e : TypeId) (ht : P.underlying t = some (.map k e)) (R : Value → Option (DataW Unit × List MemPlace)) (b n : Nat) (D : DataW Unit) (hm : a.eval m = .map (some b)) (hown : w.ownsMap P k R b n D)
    (hK : ∀ w', w'.ownsMap P k R b 0 (.map []) → w.mapTurned w' b → wpList P ops Q rest (a.put o.dst (.tuple #[])) w') : wpList P ops Q (o :: rest) a w := by
  refine wpList_plain hg fun K' hK' => ?_
  obtain ⟨w', hrun, r1, r2⟩ := clear_own hown ht o.type
  unfold Oper.wp
  simp [execOp, hop, resolve, invoke, builtin, hm, hrun, Result.andThen]
  exact hK' _ _ (hK w' r1 r2)

theorem forget_any (r b : Nat) (zs : List Int) (s : Int) (w : World) (h : Places w b zs) (hr : w.heap[r]? = some (.cells #[.map (some b), .int .i64 s] 80 (0, 0))) :
    Calls Tryz.prog 67 #[.pointer (some ⟨r, 0, none⟩)] w fun e w' => e = .returned (.tuple #[]) ∧ Places w' b [] ∧ w'.heap[r]? = some (.cells #[.map (some b), .int .i64 0] 80 (0, 0)) ∧ ∀ B, B ≤ r → B ≤ b → Below B w w' := by
  have hc0 := blk_cell hr 0
  have hlt := h.lt
  have hne : b ≠ r := fun e => by
    subst e
    obtain ⟨es, clock, hb, _⟩ := h
    rw [hb] at hr; cases hr
  have H := Lib.hid h
  have HR := Lib.hid hr
  clear h hr
  go_enter Tryz.func67, Tryz.ntmps67
  go_wp2_with (refine wpList_clear_own _ rfl _ 78 rfl 2 3 Tryz.underlying78 _ b zs.length (placesD (H := Unit) zs zs.length) rfl H.out ?_; intro w1 hown1 hturn1; have HO := Lib.hid hown1; have HT := Lib.hid hturn1; have hc := blk_cell ((hturn1.grown.block r (blk_in HR.out) (by intro e; exact hne (Option.some.inj e).symm)).trans HR.out) 1; have hf := blk_frozen ((hturn1.grown.block r (blk_in HR.out) (by intro e; exact hne (Option.some.inj e).symm)).trans HR.out) 1; clear hown1 hturn1)
  go_end0
  have hb1 := (HT.out.grown.block r (blk_in HR.out) (by intro e; exact hne (Option.some.inj e).symm)).trans HR.out
  refine ⟨rfl, World.ownsMap.setCell HO.out hne _, blk_put hb1 _, fun B h1 h2 => ?_⟩
  exact ((Below.refl B w).grown HT.out.grown (by omega) (fun j e => by cases e; exact h2)).setCell (p := ⟨r, 1, none⟩) h1 _

/-- What has been filled in: the numbers that are no longer to come. -/
def filled (zs : List Int) (left : Lit → Bool) (j : Nat) : Value := .int .i64 (if left (.int .i64 (zs[j]?.getD 0)) = true then 0 else zs[j]?.getD 0)
theorem filled_start {zs : List Int} {j : Nat} (hj : j < zs.length) : filled zs (Maps.has (placesD (H := Unit) zs zs.length)) j = .int .i64 0 := by
  unfold filled
  rw [has_places zs _ _ (Nat.le_refl _), List.take_of_length_le (Nat.le_refl _), decide_eq_true, if_pos rfl]
  rw [List.getElem?_eq_getElem hj]; exact List.getElem_mem _
theorem filled_step {zs : List Int} (hd : zs.Nodup) (left : Lit → Bool) {i j : Nat} (hi : i < zs.length) (hj : j < zs.length) :
    filled zs (fun z => left z && !z.sameKey (.int .i64 (zs[i]?.getD 0))) j = if j = i then .int .i64 (zs[i]?.getD 0) else filled zs left j := by
  unfold filled
  by_cases e : j = i
  · subst e
    simp [WideAt.sameKey_self (key_i64 _)]
  · have h1 := Maps.sameKey_ne (lit_ne (fun e' => e (nodup_inj hd hj hi e')))
    simp [e, h1]
theorem filled_end {zs : List Int} {left : Lit → Bool} (h : ∀ kl, left kl = false) (j : Nat) : filled zs left j = .int .i64 (zs[j]?.getD 0) := by
  unfold filled
  rw [h]; rfl

theorem only_cell (w : World) (g k : Nat) (u : Value) : w.grownBy (w.setCell ⟨g, k, none⟩ u) (some g) :=
  ⟨rfl, rfl, rfl, by simp [World.setCell], fun i _ hne => Below.heap_setCell w ⟨g, k, none⟩ u i (by rintro rfl; exact hne rfl)⟩

set_option maxRecDepth 100000 in
set_option maxHeartbeats 2000000 in
theorem told_any (b : Nat) (zs : List Int) (hd : zs.Nodup) (hn : zs.length ≤ 1048576) (s : Int) (w : World) (h : Places w b zs) :
    Calls Tryz.prog 41 #[.agg #[.map (some b), .int .i64 s]] w fun e w' => e = .returned (.agg #[.slice (some ⟨w.heap.size + 2, 0, none⟩) zs.length zs.length, .int .i64 s]) ∧
      w'.rowIs (w.heap.size + 2) 2 zs.length (fun i => .int .i64 (zs[i]?.getD 0)) ∧ Below w.heap.size w w' := by
  have hs := size_all hd
  have hlt := h.lt
  obtain ⟨V, hV⟩ : ∃ V, (w.alloc (.cells #[.map (some b), .int .i64 s] 80)).alloc (.cells #[.slice none 0 0, .int .i64 0] 29) = V := ⟨_, rfl⟩
  have H : Hid (Places V b zs) := by rw [← hV]; exact (h.alloc _).alloc _
  have K : Hid (Below w.heap.size w V) := by rw [← hV]; exact ((Below.refl _ w).alloc (Nat.le_refl _) _).alloc (by simp) _
  have B0 : Hid (V.heap[w.heap.size]? = some (.cells #[.map (some b), .int .i64 s] 80)) := by rw [← hV]; exact heap2a w _ _
  have R0 : Hid (V.heap[w.heap.size + 1]? = some (.cells #[.slice none 0 0, .int .i64 0] 29)) := by rw [← hV]; exact heap2b w _ _
  have sV : V.heap.size = w.heap.size + 2 := by rw [← hV]; simp
  have c0 := blk_cell B0.out 0
  have hmk := run_make_row' (P := Tryz.prog) 22 2 (.int .i64 0) 8 Tryz.underlying22 infoInt64 rfl .i64 .i64 zs.length (by omega) (by omega)
  clear h
  go_enter Tryz.func41, Tryz.ntmps41
  go_wp2_with (first
    | (at_len; refine wpList_len_own _ rfl _ 78 rfl 2 3 Tryz.underlying78 _ b zs.length (placesD (H := Unit) zs zs.length) rfl H.out ?_; rw [hs])
    | (at_range; refine wpList_range_own _ rfl _ 78 rfl 2 3 keyed Tryz.underlying78 _ b zs.length (placesD (H := Unit) zs zs.length) rfl (World.ownsMap.alloc H.out _) ?_; intro w0 hrg0 hg0 hs0))
  go_frame
  clear hmk hV
  have e1 : (V.alloc (.cells (madeCells #[.int .i64 0] zs.length) 2)).heap.size = w.heap.size + 3 := by rw [World.size_alloc, sV]
  rw [e1] at hrg0 hs0 ⊢
  have M0 := Lib.hid (World.rowIs_made V (.int .i64 0) zs.length 2)
  rw [sV] at M0
  have hB0 : Below (w.heap.size + 2) V w0 := ((Below.refl _ V).alloc (by omega) _).grown hg0 (by rw [e1]; omega) (fun j e => by cases e)
  have M1 : Hid (w0.rowIs (w.heap.size + 2) 2 zs.length (filled zs (Maps.has (placesD (H := Unit) zs zs.length)))) := by
    obtain ⟨c, hc, r⟩ := M0.out
    exact World.rowIs.congr ⟨c, (hg0.block _ (by rw [e1]; omega) (by simp)).trans hc, r⟩ (fun j hj => (filled_start hj).symm)
  go_loopw [13] (fun _ wr => ∃ (left : Lit → Bool) (cnt : Nat), wr.ranges (H := Unit) Tryz.prog 2 (plainElem Tryz.prog 3) b (w.heap.size + 3) zs.length (placesD zs zs.length) left cnt ∧ wr.rowIs (w.heap.size + 2) 2 zs.length (filled zs left) ∧ Below (w.heap.size + 2) V wr)
    (fun _ wr => wr.rangeLeft b (w.heap.size + 3))
  case atStart => exact ⟨_, _, hrg0, M1.out, hB0⟩
  case round =>
    obtain ⟨left, cnt, hrg, hrow, hB⟩ := hrel
    clear hrg0 hg0 hs0 M0 M1 hB0 e1
    go_wp2_with (at_next; refine wpList_next_ranges_ii _ rfl _ rfl 2 3 .i64 .i64 keyed Tryz.underlying2 Tryz.underlying3 b (w.heap.size + 3) zs.length _ _ _ rfl hrg ?_ ?_)
    · intro hc0 hl0
      have HR := Lib.hid (hrow.congr (fun j _ => filled_end hl0 j))
      have b1 := blk_cell ((hB.block _ (by omega)).trans B0.out) 1
      have R1 := Lib.hid ((hB.block _ (by omega)).trans R0.out)
      have r0 := blk_cell R1.out 0
      have r1 := blk_cell R1.out 1
      have f0 := blk_frozen R1.out 0
      have f1 := blk_frozen R1.out 1
      have HB := Lib.hid (K.out.trans (hB.mono (by omega)))
      clear hrow hB hrg hl0
      go_wp2
      exact row_ret (r := w.heap.size + 1) (cs := #[.slice (some ⟨w.heap.size + 2, 0, none⟩) zs.length zs.length, .int .i64 s]) rfl rfl (setAll_whole (vs := [.slice (some ⟨w.heap.size + 2, 0, none⟩) zs.length zs.length, .int .i64 s]) R1.out rfl) Tryz.underlying29 rfl (by kernel_rfl) rfl
        ⟨rfl, World.rowIs.setOther (a := ⟨w.heap.size + 1, 1, none⟩) (World.rowIs.setOther (a := ⟨w.heap.size + 1, 0, none⟩) HR.out (by simp) _) (by simp) _, (HB.out.setCell (p := ⟨w.heap.size + 1, 0, none⟩) (by simp) _).setCell (p := ⟨w.heap.size + 1, 1, none⟩) (by simp) _⟩
    · intro x c w1 cnt1 hwx hwc hlx hat hrg1 hcl hg1 hs1 hen
      obtain ⟨i, hi, rfl, hx⟩ := place_of hd hat
      have HX := Lib.hid hx
      clear hx
      have hrow1 : w1.rowIs (w.heap.size + 2) 2 zs.length (filled zs left) := by
        obtain ⟨c, hc, r⟩ := hrow
        exact ⟨c, (hg1.block _ (blk_in hc) (by intro e; have := Option.some.inj e; omega)).trans hc, r⟩
      have hB1 : Below (w.heap.size + 2) V w1 := hB.grown hg1 (by have := hB.size; omega) (fun j e => by cases e; omega)
      have g1 := hrow1.cell hi
      have g2 := hrow1.frozen i
      have HR := Lib.hid hrow1
      have HG := Lib.hid hrg1
      have HB := Lib.hid hB1
      have HL := Lib.hid (hrg.left_eq)
      clear hrow hrow1 hrg hrg1 hB hB1 hat hg1 hs1
      go_wp2
      go_roundw
      case rel =>
        refine ⟨fun z => left z && !z.sameKey (.int .i64 x), cnt1, ?_, (World.rowIs.set HR.out i _).congr (fun j hj => by rw [HX.out]; exact (filled_step hd left hi hj).symm), HB.out.setCell (p := ⟨w.heap.size + 2, i, none⟩) (Nat.le_refl _) _⟩
        exact HG.out.kept (row := some (w.heap.size + 2)) (only_cell _ _ _ _) (by intro e; have := Option.some.inj e; omega) (by intro e; have := Option.some.inj e; omega)
      case measure =>
        have hk := HG.out.kept (row := some (w.heap.size + 2)) (only_cell w1 (w.heap.size + 2) i (.int .i64 x)) (by intro e; have := Option.some.inj e; omega) (by intro e; have := Option.some.inj e; omega)
        rw [hk.left_eq, HL.out]; exact hcl

end Go.Proofs.YtioogmeghmeelaaGreat.Tx
namespace Go.Proofs.YtioogmeghmeelaaGreat.Tx
open Go.RowKit


set_option maxHeartbeats 2000000 in
theorem where_any (A : Option Addr) (n cap : Nat) (zs : List Int) (w : World) (h : Nums w w.heap.size A n zs) (hn : n ≤ 1048576) :
    Calls Tryz.prog 87 #[.slice A n cap, .func (.func 62) #[] #[]] w fun e w' => (∃ (B : Option Addr) (c : Nat), e = .returned (.slice B (zs.filter isDrawB).length c)) ∧ Below w.heap.size w w' := by
  obtain ⟨i0, hi, hz0, hz1, hz2⟩ := info_parts infoInt64
  have HL := Lib.hid h.1
  have HC := Lib.hid h.2
  clear h
  go_enter Tryz.func87, Tryz.ntmps87
  go_wp2
  go_loopw [5, 11] (fun v i wr => ∃ (j : Nat) (g c : Nat), j ≤ n ∧ i = .int .i64 j ∧ v = .slice (some ⟨g, 0, none⟩) ((zs.take j).filter isDrawB).length c ∧ Hid (OwnN wr w.heap.size ((zs.take j).filter isDrawB) (some ⟨g, 0, none⟩) ((zs.take j).filter isDrawB).length c) ∧ Hid (Below w.heap.size w wr)) (fun _ i _ => n - (intOf i).toNat)
  case atStart => exact ⟨0, w.heap.size, 0, Nat.zero_le _, rfl, rfl, ⟨World.ownsRow_made w #[] 0 (Nat.le_refl _) (Nat.zero_le _) rfl⟩, (Below.refl _ w).alloc (Nat.le_refl _) _⟩
  case round =>
    obtain ⟨j, g, c, hj, rfl, rfl, hO, hB⟩ := hrel
    have hfl : ((zs.take j).filter isDrawB).length ≤ n := Nat.le_trans (List.length_filter_le _ _) (by rw [List.length_take, HL.out]; omega)
    by_cases hlt : j < n
    · obtain ⟨b, off, rfl, hb, hc⟩ := HC.out (by omega)
      have hck := (hB.out.cell (p := ⟨b, off + j, none⟩) hb).trans (hc j hlt)
      obtain ⟨y, hy⟩ : ∃ y, y = zs[j]?.getD 0 := ⟨_, rfl⟩
      rw [← hy] at hck
      have HT : Hid ((zs.take (j + 1)).filter isDrawB = (zs.take j).filter isDrawB ++ if isDrawB y = true then [y] else []) := by
        show _ = _
        rw [take_snocN zs j (by rw [HL.out]; exact hlt), List.filter_append, ← hy]
        by_cases h : isDrawB y = true <;> simp [h]
      clear hc hy
      generalize hL : (zs.take j).filter isDrawB = L at hO HT hfl ⊢
      clear hL
      have cD := IsDraw_same y
      have hlo := (hO.out.lt (g := g) rfl).2
      have hbs := hB.out.size
      cases hd : isDrawB y with
      | false =>
        rw [hd] at cD HT
        clear hd
        go_wp2_with fail
        refine (cD _).mono ?_
        rintro e w1 ⟨rfl, rfl⟩
        go_wp2
        go_roundw
        case rel => exact ⟨j + 1, g, c, by omega, by go_num, by rw [HT.out]; simp, by rw [HT.out]; simpa using hO, hB⟩
        case measure => simp [intOf]; omega
      | true =>
        rw [hd] at cD HT
        clear hd
        go_wp2_with fail
        refine (cD _).mono ?_
        rintro e w1 ⟨rfl, rfl⟩
        go_wp2_with (at_builtin; refine wpList_append_own _ rfl _ _ 84 rfl w.heap.size 2 i0 (.int .i64 0) 1 8 Tryz.underlying84 hi hz0 hz1 hz2 rfl (by decide) _ _ _ rfl (hO.out.own.alloc _) ⟨wr.heap.size, 0, none⟩ 1 1 [.int .i64 y] rfl rfl (cell_one_new _ _ _) (by simp [Value.oneCell']) (by unfold maxLen; omega) (by omega) (by simp; omega) ?_; intro v' w3 hown' hgrow _; obtain ⟨g', c', rfl, hM'⟩ := OwnN.snoc hown'; have M' := Lib.hid hM'; have GR := Lib.hid hgrow; clear hown' hgrow hM')
        go_roundw
        case rel => exact ⟨j + 1, g', c', by omega, by go_num, by rw [HT.out]; simp, by rw [HT.out]; simpa using M', (hB.out.alloc hB.out.size _).grown GR.out (by simp; omega) (fun k e => by have e1 : g = k := Option.some.inj e; have := hO.out.lt (g := g) rfl; omega)⟩
        case measure => simp [intOf]; omega
    · obtain rfl : j = n := by omega
      rw [List.take_of_length_le (by rw [HL.out]; exact Nat.le_refl _)]
      go_wp2
      go_ret
      exact ⟨⟨_, _, rfl⟩, hB.out⟩

theorem all_any (A : Option Addr) (n cap : Nat) (zs : List Int) (w : World) (h : Nums w w.heap.size A n zs) (hn : n ≤ 1048576) :
    Calls Tryz.prog 77 #[.slice A n cap, .func (.func 62) #[] #[]] w fun e w' => e = .returned (.bool (zs.all isDrawB)) ∧ Below w.heap.size w w' := by
  have cW := where_any A n cap zs w h hn
  have he : (((zs.filter isDrawB).length : Int) == (n : Int)) = zs.all isDrawB := by
    rw [← h.1, Bool.eq_iff_iff, List.all_eq_true, beq_iff_eq]
    exact ⟨fun e => List.length_filter_eq_length_iff.1 (by omega), fun e => by rw [List.length_filter_eq_length_iff.2 e]⟩
  generalize (zs.filter isDrawB).length = m at cW he
  generalize zs.all isDrawB = y at he ⊢
  clear h
  go_enter Tryz.func77, Tryz.ntmps77
  go_wp2_with fail
  refine cW.mono ?_
  rintro e w1 ⟨⟨B, c, rfl⟩, b⟩
  go_wp2
  go_ret
  exact ⟨rfl, b⟩

theorem eq_flaws (a b c d : Bool) (w : World) : (Op.equalIn 10000 99 (.agg #[.bool a, .bool b, .bool c, .bool d]) (.agg #[.bool false, .bool false, .bool false, .bool false])).run Tryz.prog w = .ok (!a && (!b && (!c && !d))) w := by
  cases a <;> cases b <;> cases c <;> cases d <;> simp [go_sem]

set_option maxRecDepth 100000 in
set_option maxHeartbeats 2000000 in
theorem flawsOf_any (A : Option Addr) (n cap : Nat) (zs : List Int) (s : Int) (w : World) (h : Nums w w.heap.size A n zs) (hn : n ≤ 1048576) :
    Calls Tryz.prog 59 #[.agg #[.slice A n cap, .int .i64 s]] w fun e w' => e = .returned (.agg #[.bool (decide (6 < n)), .bool (!zs.all isDrawB), .bool (!unlikeB zs), .bool (!inB s 0 100000)]) ∧ Below w.heap.size w w' := by
  obtain ⟨V, hV⟩ : ∃ V, (w.alloc (.cells #[.slice A n cap, .int .i64 s] 29)).alloc (.cells #[.bool false, .bool false, .bool false, .bool false] 99) = V := ⟨_, rfl⟩
  have K : Hid (Below w.heap.size w V) := by rw [← hV]; exact ((Below.refl _ w).alloc (Nat.le_refl _) _).alloc (by simp) _
  have B0 : Hid (V.heap[w.heap.size]? = some (.cells #[.slice A n cap, .int .i64 s] 29)) := by rw [← hV]; exact heap2a w _ _
  have R0 : Hid (V.heap[w.heap.size + 1]? = some (.cells #[.bool false, .bool false, .bool false, .bool false] 99)) := by rw [← hV]; exact heap2b w _ _
  have sV : V.heap.size = w.heap.size + 2 := by rw [← hV]; simp
  have HN := Lib.hid (h.below K.out)
  clear h
  have cA : Hid (∀ w' : World, Nums w' w'.heap.size A n zs → Calls Tryz.prog 77 #[.slice A n cap, .func (.func 62) #[] #[]] w' fun e w'' => e = .returned (.bool (zs.all isDrawB)) ∧ Below w'.heap.size w' w'') := fun w' h' => all_any A n cap zs w' h' hn
  have cU : Hid (∀ w' : World, Nums w' w'.heap.size A n zs → Calls Tryz.prog 78 #[.slice A n cap] w' fun e w'' => e = .returned (.bool (unlikeB zs)) ∧ Below w'.heap.size w' w'') := fun w' h' => AllUnlike_impl A n cap zs w' h' hn
  have cT : Hid (∀ w' : World, Calls Tryz.prog 79 #[.int .i64 s] w' fun e w'' => e = .returned (.bool (inB s 0 100000)) ∧ Below w'.heap.size w' w'') := fun w' => (isTime_any s w').mono fun _ _ ⟨he, hw⟩ => ⟨he, hw ▸ Below.refl _ _⟩
  generalize zs.all isDrawB = y1 at cA ⊢
  generalize unlikeB zs = y2 at cU ⊢
  generalize inB s 0 100000 = y3 at cT ⊢
  have hd : decide ((6 : Int) < (n : Int)) = decide (6 < n) := by
    by_cases h6 : 6 < n
    · rw [decide_eq_true h6, decide_eq_true (by omega)]
    · rw [decide_eq_false h6, decide_eq_false (by omega)]
  generalize decide (6 < n) = y0 at hd ⊢
  go_enter Tryz.func59, Tryz.ntmps59
  go_wp2
  clear hV
  have hmr : (plainEnv V [w.heap.size + 1]).mine (w.heap.size + 1) := Or.inr (by simp)
  refine wp_region_own (W := V) [w.heap.size + 1] (fun w' => w'.heap[w.heap.size + 1]? = some (.cells #[.bool false, .bool false, .bool false, .bool false] 99)) (stays_blk hmr _) R0.out [0, 0, 0, 0, 0, 0, 1, 0, 0, 0, 1, 0, 0, 0, 1, 0, 0, 3] (by kernel_rfl) (by kernel_rfl) (by kernel_rfl) ?_
  have fB : ∀ q : In (plainEnv V [w.heap.size + 1]), _ := fun q => (blk2 (q.block B0.out (by simp))).1
  have NN : Hid (∀ w' : World, (plainEnv V [w.heap.size + 1]).C w' → Nums w' w'.heap.size A n zs) := fun w' hC => (HN.out.below (KeptBut.below hC (B := w.heap.size) (by omega) (by simp))).mono (by have := KeptBut.size hC; omega)
  refine wpO_quiet 6 rfl (by kernel_rfl) ?_
  simp only [List.take, List.drop]
  repeat (go_big_quiet_step (fail))
  refine wpQuiet_nil ?_
  refine wpO_call (f := 77) (args := #[.slice A n cap, .func (.func 62) #[] #[]]) (.bool y1) rfl (fun w' => by simp [go_sem]) (fun w' hC _ => cA.out w' (NN.out w' hC)) ?_
  simp only [Act.put, List.setIfInBounds_toArray, List.set_cons_succ, List.set_cons_zero]
  refine wpO_quiet 3 rfl (by kernel_rfl) ?_
  simp only [List.take, List.drop]
  repeat (go_big_quiet_step (fail))
  refine wpQuiet_nil ?_
  refine wpO_call (f := 78) (args := #[.slice A n cap]) (.bool y2) rfl (fun w' => by simp [go_sem]) (fun w' hC _ => cU.out w' (NN.out w' hC)) ?_
  simp only [Act.put, List.setIfInBounds_toArray, List.set_cons_succ, List.set_cons_zero]
  refine wpO_quiet 3 rfl (by kernel_rfl) ?_
  simp only [List.take, List.drop]
  repeat (go_big_quiet_step (fail))
  refine wpQuiet_nil ?_
  refine wpO_call (f := 79) (args := #[.int .i64 s]) (.bool y3) rfl (fun w' => by simp [go_sem]) (fun w' _ _ => cT.out w') ?_
  simp only [Act.put, List.setIfInBounds_toArray, List.set_cons_succ, List.set_cons_zero]
  refine wpO_quiet 2 rfl (by kernel_rfl) ?_
  simp only [List.take, List.drop]
  repeat (go_big_quiet_step (fail))
  refine wpQuiet_nil ?_
  refine wpO_store (g := w.heap.size + 1) (t := 99) (old := #[.bool false, .bool false, .bool false, .bool false]) (fun _ => True) #[.bool y0, .bool (!y1), .bool (!y2), .bool (!y3)] rfl rfl rfl rfl hmr (by kernel_rfl) rfl rfl (fun w' h => ⟨trivial, h⟩) stays_true (away_true _) ?_
  simp only [Act.put]
  refine wpO_nil ?_
  rintro w9 b' ⟨_, hblk⟩
  have b := KeptBut.below b' (B := w.heap.size) (by omega) (by simp)
  go_wp2
  exact row_ret (r := w.heap.size + 1) (cs := #[.bool y0, .bool (!y1), .bool (!y2), .bool (!y3)]) rfl rfl hblk Tryz.underlying99 rfl (by kernel_rfl) rfl ⟨rfl, K.out.trans b⟩

end Go.Proofs.YtioogmeghmeelaaGreat.Tx
namespace Go.Proofs.YtioogmeghmeelaaGreat.Tx
open Go.RowKit

theorem memB_flaws {zs : List Int} {n : Nat} (hn : zs.length = n) (s : Int) : (!decide (6 < n) && (!!zs.all isDrawB && (!!unlikeB zs && !!inB s 0 100000))) = memB zs s := by
  unfold memB
  rw [hn]
  have : (!decide (6 < n)) = decide (n ≤ 6) := by
    by_cases h : n ≤ 6
    · rw [decide_eq_true h, decide_eq_false (by omega)]; rfl
    · rw [decide_eq_false h, decide_eq_true (by omega)]; rfl
  rw [this]
  simp only [Bool.not_not]
  cases zs.all isDrawB <;> cases decide (n ≤ 6) <;> rfl

theorem MemoryOk_impl (A : Option Addr) (n cap : Nat) (zs : List Int) (s : Int) (w : World) (h : Nums w w.heap.size A n zs) (hn : n ≤ 1048576) :
    Calls Tryz.prog 37 #[.agg #[.slice A n cap, .int .i64 s]] w fun e w' => e = .returned (.bool (memB zs s)) ∧ Below w.heap.size w w' := by
  have hf := memB_flaws h.1 s
  obtain ⟨V, hV⟩ : ∃ V, w.alloc (.cells #[.slice A n cap, .int .i64 s] 29) = V := ⟨_, rfl⟩
  have K : Hid (Below w.heap.size w V) := by rw [← hV]; exact (Below.refl _ w).alloc (Nat.le_refl _) _
  have B0 : Hid (V.heap[w.heap.size]? = some (.cells #[.slice A n cap, .int .i64 s] 29)) := by rw [← hV]; exact heap1 w _
  have cF := Lib.hid (flawsOf_any A n cap zs s V (h.on K.out) hn)
  clear h
  generalize decide (6 < n) = y0 at cF hf
  generalize (!zs.all isDrawB) = y1 at cF hf
  generalize (!unlikeB zs) = y2 at cF hf
  generalize (!inB s 0 100000) = y3 at cF hf
  have hq := eq_flaws y0 y1 y2 y3
  rw [hf] at hq
  clear hf
  generalize memB zs s = y at hq ⊢
  obtain ⟨⟨a0, a1⟩, _⟩ := blk2 B0.out
  go_enter Tryz.func37, Tryz.ntmps37
  go_wp2_with fail
  clear hV a0 a1
  refine cF.out.mono ?_
  rintro e w1 ⟨rfl, b⟩
  replace K := Lib.hid (K.out.trans (b.mono K.out.size))
  clear b
  go_wp2
  go_ret
  exact ⟨rfl, K.out⟩

theorem places_away {g x : Nat} (h : x ≠ g) (zs : List Int) : Away g (fun w => Places w x zs) := fun w w' hw hp => by
  obtain ⟨es, clock, hb, r⟩ := hp
  exact ⟨es, clock, (hw x (blk_in hb) h).trans hb, r⟩
/-- What recallOf hands back. -/
def RecOut (zs : List Int) (s : Int) (w : World) (e : Ending) (w' : World) : Prop :=
  ∃ b, e = .returned (.tuple #[.agg #[.map (some b), .int .i64 (sinceI zs s)], .bool (memB zs s)]) ∧ Places w' b (seenL zs s) ∧ w.heap.size ≤ b ∧ Below w.heap.size w w'

set_option maxRecDepth 100000 in
set_option maxHeartbeats 4000000 in
theorem recallOf_any (A : Option Addr) (n cap : Nat) (zs : List Int) (s : Int) (w : World) (h : Nums w w.heap.size A n zs) (hi : AllI64 zs) (hn : n ≤ 1048576) :
    Calls Tryz.prog 40 #[.agg #[.slice A n cap, .int .i64 s]] w (RecOut zs s w) := by
  obtain ⟨V, hV⟩ : ∃ V, (w.alloc (.cells #[.slice A n cap, .int .i64 s] 29)).alloc (.cells #[.map none, .int .i64 0] 80) = V := ⟨_, rfl⟩
  have K : Hid (Below w.heap.size w V) := by rw [← hV]; exact ((Below.refl _ w).alloc (Nat.le_refl _) _).alloc (by simp) _
  have B0 : Hid (V.heap[w.heap.size]? = some (.cells #[.slice A n cap, .int .i64 s] 29)) := by rw [← hV]; exact heap2a w _ _
  have R0 : Hid (V.heap[w.heap.size + 1]? = some (.cells #[.map none, .int .i64 0] 80)) := by rw [← hV]; exact heap2b w _ _
  have sV : V.heap.size = w.heap.size + 2 := by rw [← hV]; simp
  have HN := Lib.hid (h.on K.out)
  have HI := Lib.hid hi
  clear h hi
  go_enter Tryz.func40, Tryz.ntmps40
  go_wp2
  clear hV
  refine wp_region_own (W := V) [] (fun _ => True) stays_true trivial [0, 0, 1, 0, 0, 0, 2, 3] (by kernel_rfl) (by kernel_rfl) (by kernel_rfl) ?_
  have fB : ∀ q : In (plainEnv V []), _ := fun q => (blk2 (q.block B0.out (by simp))).1
  refine wpO_quiet 2 rfl (by kernel_rfl) ?_
  simp only [List.take, List.drop]
  repeat (go_big_quiet_step (fail))
  refine wpQuiet_nil ?_
  refine wpO_callx (f := 66) (args := #[.slice A n cap]) (α := Nat) (fun x => .map (some x)) (fun x => [x]) (fun x w' => Places w' x zs) rfl (fun w' => by simp [go_sem]) (fun x w1 w2 hw h b => h.on b) (fun G => ?_) (fun w' hw hF => ?_) (fun x hx => ?_)
  · obtain ⟨g, hg, hn⟩ := fresh_above V.heap.size G
    exact ⟨g, fun k hk => by simp at hk; subst hk; exact ⟨hg, hn⟩⟩
  · exact (placesOf_any A n cap zs w' (HN.out.on (kept_below hw)) HI.out hn).mono fun e w'' ⟨he, hp, hb⟩ => ⟨w'.heap.size, he, hp, hb, fun k hk => by simp at hk; subst hk; exact ⟨Nat.le_refl _, hp.lt⟩⟩
  have hxl : V.heap.size ≤ x := (hx x (by simp)).1
  simp only [Act.put, List.setIfInBounds_toArray, List.set_cons_succ, List.set_cons_zero]
  refine wpO_quiet 3 rfl (by kernel_rfl) ?_
  simp only [List.take, List.drop]
  repeat (go_big_quiet_step (fail))
  refine wpQuiet_nil ?_
  refine wpO_alloc (.cells #[.map none, .int .i64 0] 80) rfl (fun w' => by simp [go_sem]) fun g hg hgG => ?_
  have hgx : x ≠ g := fun e => hgG (by simp [e])
  have hgl : V.heap.size ≤ g := hg
  simp only [Act.put, List.setIfInBounds_toArray, List.set_cons_succ, List.set_cons_zero]
  refine wpO_store (g := g) (t := 80) (old := #[.map none, .int .i64 0]) (fun w' => Places w' x zs) #[.map (some x), .int .i64 s] rfl rfl rfl rfl (Or.inl hg) (by kernel_rfl) rfl rfl (fun w' h => ⟨h.1.2, h.2⟩) (fun w1 w2 hw h b => h.on b) (places_away hgx zs) ?_
  simp only [Act.put]
  refine wpO_nil ?_
  rintro w1 b' ⟨hp, hblk⟩
  have b := kept_below b'
  have P := Lib.hid hp
  have G := Lib.hid hblk
  have B := Lib.hid (blk_on b B0.out)
  have R := Lib.hid (blk_on b R0.out)
  have N := Lib.hid (HN.out.on b)
  replace K := Lib.hid (K.out.trans (b.mono K.out.size))
  have s1 := b.size
  clear b b' hp hblk B0 R0 HN fB hx hg hgG
  have cM := Lib.hid (MemoryOk_impl A n cap zs s w1 N.out hn)
  obtain ⟨⟨a0, a1⟩, _⟩ := blk2 B.out
  go_wp2_with fail
  clear a0 a1
  refine cM.out.mono ?_
  cases hM : memB zs s with
  | true =>
    have E1 := Lib.hid (sinceI_true hM)
    have E2 := Lib.hid (seenL_true hM)
    have E3 := Lib.hid hM
    rintro e w2 ⟨rfl, b⟩
    replace P := Lib.hid (P.out.on b)
    replace G := Lib.hid (blk_on b G.out)
    replace R := Lib.hid (blk_on b R.out)
    replace K := Lib.hid (K.out.trans (b.mono K.out.size))
    clear b hM cM
    obtain ⟨⟨g0, g1⟩, _⟩ := blk2 G.out
    obtain ⟨⟨r0, r1⟩, p0, p1⟩ := blk2 R.out
    go_wp2
    exact row_ret2 (r := w.heap.size + 1) (cs := #[.map (some x), .int .i64 s]) rfl rfl rfl (setAll_whole (vs := [.map (some x), .int .i64 s]) R.out rfl) Tryz.underlying80 rfl (by kernel_rfl) rfl
      ⟨x, by rw [E1.out, E3.out]; rfl, by rw [E2.out]; exact places_away (g := w.heap.size + 1) (by omega) zs _ _ (fun k _ hk => setAll_off hk [.map (some x), .int .i64 s] 0) P.out, by omega, setAll_below (g := w.heap.size + 1) (by omega) [.map (some x), .int .i64 s] 0 K.out⟩
  | false =>
    have E1 := Lib.hid (sinceI_false hM)
    have E2 := Lib.hid (seenL_false hM)
    have E3 := Lib.hid hM
    rintro e w2 ⟨rfl, b⟩
    replace P := Lib.hid (P.out.on b)
    replace G := Lib.hid (blk_on b G.out)
    replace R := Lib.hid (blk_on b R.out)
    replace K := Lib.hid (K.out.trans (b.mono K.out.size))
    have s2 := b.size
    clear b hM cM
    go_wp2_with fail
    refine (forget_any g x zs s w2 P.out G.out).mono ?_
    rintro e w3 ⟨rfl, hp, hg, hb⟩
    replace P := Lib.hid hp
    replace G := Lib.hid hg
    have b := hb (w.heap.size + 2) (by omega) (by omega)
    replace R := Lib.hid ((b.block _ (by omega)).trans R.out)
    replace K := Lib.hid (K.out.trans (b.mono (by omega)))
    clear hp hg hb b
    obtain ⟨⟨g0, g1⟩, _⟩ := blk2 G.out
    obtain ⟨⟨r0, r1⟩, p0, p1⟩ := blk2 R.out
    go_wp2
    exact row_ret2 (r := w.heap.size + 1) (cs := #[.map (some x), .int .i64 0]) rfl rfl rfl (setAll_whole (vs := [.map (some x), .int .i64 0]) R.out rfl) Tryz.underlying80 rfl (by kernel_rfl) rfl
      ⟨x, by rw [E1.out, E3.out]; rfl, by rw [E2.out]; exact places_away (g := w.heap.size + 1) (by omega) [] _ _ (fun k _ hk => setAll_off hk [.map (some x), .int .i64 0] 0) P.out, by omega, setAll_below (g := w.heap.size + 1) (by omega) [.map (some x), .int .i64 0] 0 K.out⟩

end Go.Proofs.YtioogmeghmeelaaGreat.Tx
namespace Go.Proofs.YtioogmeghmeelaaGreat.Tx
open Go.RowKit

/-- The right ones of a list of seats. -/
def okS (ss : List SeatL) : List SeatL := ss.filter fun q => seatOkB q.s q.l.length
theorem okS_le (ss : List SeatL) : (okS ss).length ≤ ss.length := List.length_filter_le _ _
theorem okS_step {ss : List SeatL} {k : Nat} {q : SeatL} (h : ss[k]? = some q) : (okS (ss.take (k + 1))).length = (okS (ss.take k)).length + if seatOkB q.s q.l.length = true then 1 else 0 := by
  rw [okS, okS, List.take_add_one, h, Option.toList_some, List.filter_append, List.length_append]
  cases e : seatOkB q.s q.l.length <;> simp [e]
theorem okS_all (ss : List SeatL) : (((okS ss).length : Int) == (ss.length : Int)) = seatsOkB ss := by
  rw [seatsOkB, Bool.eq_iff_iff, List.all_eq_true, beq_iff_eq]
  exact ⟨fun e => List.length_filter_eq_length_iff.1 (by rw [okS] at e; omega), fun e => by rw [okS, List.length_filter_eq_length_iff.2 e]⟩
theorem infoSeatP : ∃ (i : TypeInfo) (by' : Nat), Tryz.prog.info? 68 = some i ∧ i.zero = some (SeatV.val .zero none 0 0) ∧ i.size = 15 ∧ i.bytes = by' ∧ by' ≤ 400 := by
  obtain ⟨i, hi⟩ := Option.isSome_iff_exists.1 (show (Tryz.prog.info? 68).isSome = true by kernel_rfl)
  have h1 : (Tryz.prog.info? 68).map (fun i => (i.zero, i.size)) = some (some (SeatV.val .zero none 0 0), 15) := by kernel_rfl
  have h2 : ((Tryz.prog.info? 68).map (fun i => decide (i.bytes ≤ 400))) = some true := by kernel_rfl
  rw [hi] at h1 h2
  simp only [Option.map_some, Option.some.injEq, Prod.mk.injEq, decide_eq_true_eq] at h1 h2
  exact ⟨i, i.bytes, hi, h1.1, h1.2, rfl, h2⟩

set_option maxRecDepth 100000 in
set_option maxHeartbeats 16000000 in
theorem seatsWhere_any (A : Option Addr) (n cap : Nat) (ss : List SeatL) (w : World) (h : SeatsO w w.heap.size A n ss) (hn : n ≤ 1048576) :
    Calls Tryz.prog 60 #[.slice A n cap, .func (.func 39) #[] #[]] w fun e w' => (∃ (B : Option Addr) (c : Nat), e = .returned (.slice B (okS ss).length c)) ∧ Below w.heap.size w w' := by
  obtain ⟨i0, by0, hi, hz0, hz1, hz2, hby⟩ := infoSeatP
  have hlen := h.len
  have E := Lib.hid h
  clear h
  go_enter Tryz.func60, Tryz.ntmps60
  go_wp2
  go_loopw [5, 11] (fun v i wr => ∃ (k gb cb : Nat) (out : List SeatH), k ≤ n ∧ i = .int .i64 k ∧ v = .slice (some ⟨gb, 0, none⟩) out.length cb ∧ out.length = (okS (ss.take k)).length ∧ MadeE wr w.heap.size 68 out gb cb ∧ Below w.heap.size w wr) (fun _ i _ => n - (intOf i).toNat)
  case atStart => exact ⟨0, w.heap.size, 0, [], Nat.zero_le _, rfl, rfl, by simp [okS], madeG_nil (heap1 w _) (Nat.le_refl _), (Below.refl _ w).alloc (Nat.le_refl _) _⟩
  case round =>
    obtain ⟨k, gb, cb, out, hk, rfl, rfl, hO, hM, hB⟩ := hrel
    have holen : out.length ≤ n := by
      have h1 := okS_le (ss.take k)
      have h2 : (ss.take k).length ≤ k := by rw [List.length_take]; omega
      omega
    have HM := Lib.hid hM
    have HB := Lib.hid hB
    have HO := Lib.hid hO
    have hgb := hM.base
    have hsB := hB.size
    clear hM hB hO
    by_cases hlt : k < n
    · obtain ⟨b, off, ⟨⟨st, sh, sd, sp, ⟨⟨eu, es, eh, ea⟩, en⟩, ⟨⟨fu, fs, fh, fa⟩, fn⟩⟩, xA, xn, xc⟩, q, rfl, hb, hq, e1, g1, E1, _⟩ := E.out.at hlt
      obtain ⟨c0, c1, c2, c3, c4, c5, c6, c7, c8, c9, c10, c11, c12, c13, c14⟩ := seat_at (g1.heap (HB.out.block b hb))
      have hxl : q.l.length = xn := E1.1
      have e2 : ⟨st, sh, sd, sp, ⟨⟨eu, es, eh, ea⟩, en⟩, ⟨⟨fu, fs, fh, fa⟩, fn⟩⟩ = q.s := e1
      dsimp only at c0 c1 c2 c3 c4 c5 c6 c7 c8 c9 c10 c11 c12 c13 c14
      have hk0 : (0 : Int) ≤ (k : Int) := by omega
      have hkn : (k : Int) < (n : Int) := by omega
      have HS := Lib.hid (okS_step hq)
      obtain ⟨xp, hxp⟩ : ∃ z, seatOkB q.s q.l.length = z := ⟨_, rfl⟩
      rw [hxp] at HS
      have cE : Hid (∀ w' : World, Calls Tryz.prog 39 #[.agg #[.int .i64 st, .int .i64 sh, .int .i64 sd, .int .i64 sp, .int .i64 eu, .int .i64 es, .int .i64 eh, .int .i64 ea, .int .i64 en, .int .i64 fu, .int .i64 fs, .int .i64 fh, .int .i64 fa, .int .i64 fn, .slice xA xn xc]] w' fun e w'' => e = .returned (.bool xp) ∧ Below w'.heap.size w' w'') := fun w' => by
        have h1 := SeatOk_impl0 ⟨st, sh, sd, sp, ⟨⟨eu, es, eh, ea⟩, en⟩, ⟨⟨fu, fs, fh, fa⟩, fn⟩⟩ xA xn xc w'
        rw [show seatOkB ⟨st, sh, sd, sp, ⟨⟨eu, es, eh, ea⟩, en⟩, ⟨⟨fu, fs, fh, fa⟩, fn⟩⟩ xn = xp by rw [e2, ← hxl, hxp]] at h1
        exact h1
      clear hq g1 E1 e1 e2 hxl hxp
      obtain ⟨W1, hW1⟩ : ∃ V, wr.alloc (.cells #[.int .i64 st, .int .i64 sh, .int .i64 sd, .int .i64 sp, .int .i64 eu, .int .i64 es, .int .i64 eh, .int .i64 ea, .int .i64 en, .int .i64 fu, .int .i64 fs, .int .i64 fh, .int .i64 fa, .int .i64 fn, .slice xA xn xc] 68) = V := ⟨_, rfl⟩
      have HM1 : Hid (MadeE W1 w.heap.size 68 out gb cb) := by rw [← hW1]; exact HM.out.below ((Below.refl _ wr).alloc (Nat.le_refl _) _)
      have HB1 : Hid (Below w.heap.size w W1) := by rw [← hW1]; exact HB.out.alloc HB.out.size _
      have X1 : Hid (W1.heap[wr.heap.size]? = some (.cells #[.int .i64 st, .int .i64 sh, .int .i64 sd, .int .i64 sp, .int .i64 eu, .int .i64 es, .int .i64 eh, .int .i64 ea, .int .i64 en, .int .i64 fu, .int .i64 fs, .int .i64 fh, .int .i64 fa, .int .i64 fn, .slice xA xn xc] 68)) := by rw [← hW1]; exact heap1 wr _
      go_wp2_with (refine wpList_load_row rfl 68 _ rfl (wr.heap.size) rfl 68 _ (0, 0) _ X1.out Tryz.underlying68 rfl (by kernel_rfl) ?_)
      clear c0 c1 c2 c3 c4 c5 c6 c7 c8 c9 c10 c11 c12 c13 c14
      refine (cE.out _).mono ?_
      rintro e w2 ⟨rfl, b2⟩
      have HM2 := Lib.hid (HM1.out.below b2)
      have HB2 := Lib.hid (HB1.out.trans (b2.mono HB1.out.size))
      have X2 := Lib.hid (blk_on b2 X1.out)
      have hs2 := b2.size
      have hs1 : wr.heap.size < W1.heap.size := blk_in X1.out
      clear b2 HM1 HB1 X1 HM HB
      try clear hW1
      cases xp with
      | false =>
        go_wp2
        go_roundw
        case rel => exact ⟨k + 1, gb, cb, out, by omega, by go_num, rfl, by rw [HO.out, HS.out]; rfl, HM2.out, HB2.out⟩
        case measure => simp [intOf]; omega
      | true =>
        obtain ⟨⟨a0, a1, a2, a3, a4, a5, a6, a7, a8, a9, a10, a11, a12, a13, a14⟩, _⟩ := blk15 X2.out
        go_wp2_with (at_builtin; refine wpList_append_own _ rfl _ _ 75 rfl w.heap.size 68 i0 (SeatV.val .zero none 0 0) 15 by0 Tryz.underlying75 hi hz0 hz1 hz2 rfl (by decide) _ out.length (out.flatMap Cells.cells) rfl (HM2.out.own.alloc _) ⟨w2.heap.size, 0, none⟩ 1 1 ([(SeatH.mk ⟨st, sh, sd, sp, ⟨⟨eu, es, eh, ea⟩, en⟩, ⟨⟨fu, fs, fh, fa⟩, fn⟩⟩ xA xn xc)].flatMap Cells.cells) rfl rfl (cells_new w2 ([.int .i64 st, .int .i64 sh, .int .i64 sd, .int .i64 sp, .int .i64 eu, .int .i64 es, .int .i64 eh, .int .i64 ea, .int .i64 en, .int .i64 fu, .int .i64 fs, .int .i64 fh, .int .i64 fa, .int .i64 fn, .slice xA xn xc]) _) flat_one (by unfold maxLen; omega) (Nat.le_trans (Nat.mul_le_mul (by omega : out.length + 1 ≤ 1048577) hby) (by decide)) (by simp; omega) ?_; intro v' w3 hown' hgrow hiff; have h9 := made_app (l := out) (l2 := [(SeatH.mk ⟨st, sh, sd, sp, ⟨⟨eu, es, eh, ea⟩, en⟩, ⟨⟨fu, fs, fh, fa⟩, fn⟩⟩ xA xn xc)]) (n := out.length) (m := 1) (gb := gb) (cb := cb) hown' rfl rfl hiff; obtain ⟨gb', cb', rfl, hM'⟩ := h9; have HM' := Lib.hid hM'; have HGR := Lib.hid hgrow; clear hown' hgrow hM' hiff)
        go_roundw
        case rel => exact ⟨k + 1, gb', cb', out ++ [(SeatH.mk ⟨st, sh, sd, sp, ⟨⟨eu, es, eh, ea⟩, en⟩, ⟨⟨fu, fs, fh, fa⟩, fn⟩⟩ xA xn xc)], by omega, by go_num, by first | rfl | simp, by rw [List.length_append, HO.out, HS.out]; rfl, HM'.out, (HB2.out.alloc HB2.out.size _).grown HGR.out (by simp; omega) (by intro k' e; have e1 := Option.some.inj e; dsimp only at e1; omega)⟩
        case measure => simp [intOf]; omega
    · obtain rfl : k = n := by omega
      have hlt' : ¬ (k : Int) < (k : Int) := by omega
      have hR : out.length = (okS ss).length := by rw [HO.out, List.take_of_length_le (by rw [hlen]; omega)]
      rw [hR]
      go_wp2
      go_ret
      exact ⟨⟨_, _, rfl⟩, HB.out⟩

theorem seatsAll_any (A : Option Addr) (n cap : Nat) (ss : List SeatL) (w : World) (h : SeatsO w w.heap.size A n ss) (hn : n ≤ 1048576) :
    Calls Tryz.prog 38 #[.slice A n cap, .func (.func 39) #[] #[]] w fun e w' => e = .returned (.bool (seatsOkB ss)) ∧ Below w.heap.size w w' := by
  have cW := seatsWhere_any A n cap ss w h hn
  have he := okS_all ss
  rw [h.len] at he
  generalize (okS ss).length = m at cW he
  generalize seatsOkB ss = y at he ⊢
  clear h
  go_enter Tryz.func38, Tryz.ntmps38
  go_wp2_with fail
  refine cW.mono ?_
  rintro e w1 ⟨⟨B, c, rfl⟩, b⟩
  go_wp2
  go_ret
  exact ⟨rfl, b⟩

theorem innOk_prog (zs : List Int) (t : Int) (ss : List SeatL) : innOkB zs t ss = (memB zs t && (decide (ss.length ≤ 8) && seatsOkB ss)) := by
  rw [innOkB]
  generalize seatsOkB ss = a
  generalize memB zs t = b
  generalize decide (ss.length ≤ 8) = c
  cases a <;> cases b <;> cases c <;> rfl
set_option maxRecDepth 100000 in
set_option maxHeartbeats 16000000 in
theorem InnOk_impl0 (M : Option Addr) (nm cm : Nat) (zs : List Int) (s : Int) (A : Option Addr) (n cap : Nat) (ss : List SeatL) (w : World) (hM : Nums w w.heap.size M nm zs) (hA : SeatsO w w.heap.size A n ss) (hnm : nm ≤ 1048576) (hn : n ≤ 1048576) :
    Calls Tryz.prog 18 #[.agg #[.slice M nm cm, .int .i64 s, .slice A n cap]] w fun e w' => e = .returned (.bool (innOkB zs s ss)) ∧ Below w.heap.size w w' := by
  have hd : decide ((n : Int) ≤ 8) = decide (ss.length ≤ 8) := by
    rw [hA.len]
    by_cases h8 : n ≤ 8
    · rw [decide_eq_true h8, decide_eq_true (by omega)]
    · rw [decide_eq_false h8, decide_eq_false (by omega)]
  have cM : Hid (∀ w' : World, Nums w' w'.heap.size M nm zs → Calls Tryz.prog 37 #[.agg #[.slice M nm cm, .int .i64 s]] w' fun e w'' => e = .returned (.bool (memB zs s)) ∧ Below w'.heap.size w' w'') := fun w' h' => MemoryOk_impl M nm cm zs s w' h' hnm
  have cA : Hid (∀ w' : World, SeatsO w' w'.heap.size A n ss → Calls Tryz.prog 38 #[.slice A n cap, .func (.func 39) #[] #[]] w' fun e w'' => e = .returned (.bool (seatsOkB ss)) ∧ Below w'.heap.size w' w'') := fun w' h' => seatsAll_any A n cap ss w' h' hn
  rw [innOk_prog]
  have HM := Lib.hid hM
  have HA := Lib.hid hA
  clear hM hA
  generalize memB zs s = y1 at cM ⊢
  generalize seatsOkB ss = y3 at cA ⊢
  generalize decide (ss.length ≤ 8) = y2 at hd ⊢
  obtain ⟨W0, hW0⟩ : ∃ W, w.alloc (.cells #[.slice M nm cm, .int .i64 s, .slice A n cap] 32) = W := ⟨_, rfl⟩
  have K0 : Hid (Below w.heap.size w W0) := by rw [← hW0]; exact (Below.refl _ w).alloc (Nat.le_refl _) _
  have Q0 : Hid (W0.heap[w.heap.size]? = some (.cells #[.slice M nm cm, .int .i64 s, .slice A n cap] 32)) := by rw [← hW0]; exact heap1 w _
  go_enter Tryz.func18, Tryz.ntmps18
  obtain ⟨⟨a0, a1, a2⟩, _⟩ := blk3 Q0.out
  go_wp2_with fail
  clear a0 a1 a2
  clear hW0
  refine (cM.out _ ((HM.out.below K0.out).mono K0.out.size)).mono ?_
  rintro e w1 ⟨rfl, hb⟩
  have Q1 := Lib.hid (blk_on hb Q0.out)
  have K1 := Lib.hid (K0.out.trans (hb.mono K0.out.size))
  clear hb Q0 K0
  obtain ⟨⟨a0, a1, a2⟩, _⟩ := blk3 Q1.out
  cases y1 with
  | false =>
    go_wp2
    go_ret
    exact ⟨rfl, K1.out⟩
  | true =>
    cases y2 with
    | false =>
      go_wp2
      go_ret
      exact ⟨rfl, K1.out⟩
    | true =>
      go_wp2_with fail
      clear a0 a1 a2
      refine (cA.out _ ((HA.out.below K1.out).mono K1.out.size)).mono ?_
      rintro e w2 ⟨rfl, hb⟩
      have Q2 := Lib.hid (blk_on hb Q1.out)
      have K2 := Lib.hid (K1.out.trans (hb.mono K1.out.size))
      clear hb Q1 K1
      go_wp2
      go_ret
      exact ⟨rfl, K2.out⟩
theorem InnOk_impl (M : Option Addr) (nm cm : Nat) (zs : List Int) (s : Int) (A : Option Addr) (n cap : Nat) (ss : List SeatL) (w : World) (h : InnO w w.heap.size M nm A n zs ss) (_ : M = none → cm = 0) (_ : AllI64 zs) (hnm : nm ≤ 1048576) (hn : n ≤ 1048576) (_ : ∀ q ∈ ss, q.l.length ≤ 1048576) : Calls Tryz.prog 18 #[.agg #[.slice M nm cm, .int .i64 s, .slice A n cap]] w fun e w' => e = .returned (.bool (innOkB zs s ss)) ∧ Below w.heap.size w w' := InnOk_impl0 M nm cm zs s A n cap ss w h.mem h.seats hnm hn

end Go.Proofs.YtioogmeghmeelaaGreat.Tx
namespace Go.Proofs.YtioogmeghmeelaaGreat.Tx
open Go.RowKit

theorem nums_at {w : World} {B n : Nat} {ad : Addr} {zs : List Int} {j : Nat} {u : Value} (h : Nums w B (some ad) n zs) (hl : zs.length = n) (hu : (zs.map (Value.int .i64))[j]? = some u) : w.cell? (ad.add j) = some u := by
  have hj : j < n := by
    have := (List.getElem?_eq_some_iff.1 hu).1
    simp [hl] at this; exact this
  obtain ⟨b, off, e, hb, hc⟩ := h.2 (by omega)
  cases e
  rw [Go.WideShapes.add_plain, hc j hj, ← hu, List.getElem?_map, List.getElem?_eq_getElem (by rw [hl]; exact hj)]
  rfl
theorem nums_app {w : World} {base n g : Nat} {zs : List Int} {v : Value} {c m : Nat} (h : w.ownsRow base 2 1 v (0 + n) ([] ++ zs.map (Value.int .i64))) (hf : v = .slice none 0 0 ↔ (Value.slice (some ⟨g, 0, none⟩) m c) = .slice none 0 0 ∧ n = 0) :
    ∃ gb cb, v = .slice (some ⟨gb, 0, none⟩) n cb ∧ OwnN w base zs (some ⟨gb, 0, none⟩) n cb := by
  rw [Nat.zero_add, List.nil_append] at h
  rcases h.2 with ⟨e, _⟩ | ⟨gb, cb, cur, e, _⟩
  · have := (hf.1 e).1
    cases this
  · subst e
    exact ⟨gb, cb, rfl, ⟨h⟩⟩

set_option maxRecDepth 100000 in
set_option maxHeartbeats 4000000 in
theorem numsCopied_any (A : Option Addr) (n cap : Nat) (zs : List Int) (w : World) (h : Nums w w.heap.size A n zs) (hz : A = none → cap = 0) (hn : n ≤ 1048576) :
    Calls Tryz.prog 42 #[.slice A n cap] w fun e w' => ∃ g cb, e = .returned (.slice (some ⟨g, 0, none⟩) n cb) ∧ OwnN w' w.heap.size zs (some ⟨g, 0, none⟩) n cb ∧ Below w.heap.size w w' := by
  obtain ⟨i0, hi, hz0, hz1, hz2⟩ := info_parts infoInt64
  have HL := Lib.hid h.1
  have HZ := Lib.hid hz
  obtain ⟨W0, hW0⟩ : ∃ W, w.alloc (.cells #[] 2) = W := ⟨_, rfl⟩
  have K0 : Hid (Below w.heap.size w W0) := by rw [← hW0]; exact (Below.refl _ w).alloc (Nat.le_refl _) _
  have O0 : Hid (OwnN W0 w.heap.size [] (some ⟨w.heap.size, 0, none⟩) 0 0) := by rw [← hW0]; exact ⟨World.ownsRow_made w #[] 0 (Nat.le_refl _) (Nat.zero_le _) rfl⟩
  have HN := Lib.hid (h.below K0.out)
  have hlt : w.heap.size < W0.heap.size := (O0.out.lt rfl).2
  clear h hz
  go_enter Tryz.func42, Tryz.ntmps42
  rcases A with _ | ad
  · have hn0 : n = 0 := by
      rcases Nat.eq_zero_or_pos n with h | h
      · exact h
      · obtain ⟨_, _, e, _⟩ := HN.out.2 h; cases e
    subst hn0
    obtain rfl : zs = [] := List.length_eq_zero_iff.1 HL.out
    obtain rfl : cap = 0 := HZ.out rfl
    have hap := run_append_owned_none W0 w.heap.size 84 84 2 i0 1 Tryz.underlying84 hi _ 0 [] O0.out.own
    go_wp2
    go_ret
    exact ⟨w.heap.size, 0, rfl, O0.out, K0.out⟩
  · go_wp2_with (at_builtin; refine wpList_append_own _ rfl _ _ 84 rfl w.heap.size 2 i0 (.int .i64 0) 1 8 Tryz.underlying84 hi hz0 hz1 hz2 rfl (by decide) _ 0 [] rfl O0.out.own ad n cap (zs.map (Value.int .i64)) rfl (by simp [HL.out]) (fun j u hu => nums_at HN.out HL.out hu) (by simp [Value.oneCell']) (by unfold maxLen; omega) (by omega) (by omega) ?_; intro v' w3 hown' hgrow hiff; have h9 := nums_app hown' hiff; obtain ⟨gb', cb', rfl, hM'⟩ := h9; have HM' := Lib.hid hM'; have HGR := Lib.hid hgrow; clear hown' hgrow hM' hiff)
    go_ret
    exact ⟨gb', cb', rfl, HM'.out, below_off K0.out HGR.out ⟨Nat.le_refl _, by omega⟩⟩

set_option maxRecDepth 100000 in
set_option maxHeartbeats 32000000 in
theorem innWith_any (M : Option Addr) (nm cm : Nat) (zs : List Int) (s : Int) (A : Option Addr) (n cap : Nat) (ss : List SeatL) (w : World) (h : InnO w w.heap.size M nm A n zs ss) (hMz : M = none → cm = 0) (hnm : nm ≤ 1048576) (hn : n ≤ 1048576) (hl : ∀ q ∈ ss, q.l.length ≤ 1048576) :
    Calls Tryz.prog 21 #[.agg #[.slice M nm cm, .int .i64 s], .slice A n cap] w fun e w' => ∃ i : InnH, e = .returned (i.val s) ∧ i.mn = nm ∧ i.n = n ∧ HeldI w' w.heap.size i zs ss ∧ Below w.heap.size w w' := by
  obtain ⟨i0, by0, hi, hz0, hz1, hz2, hby⟩ := infoSeatP
  have E := Lib.hid h
  have HL := Lib.hid hl
  have hlen := h.seats.len
  clear h hl
  obtain ⟨W0, hW0⟩ : ∃ W, (w.alloc (.cells #[.slice M nm cm, .int .i64 s] 29)).alloc (.cells #[.slice none 0 0, .int .i64 0, .slice none 0 0] 32) = W := ⟨_, rfl⟩
  have K0 : Hid (Below w.heap.size w W0) := by rw [← hW0]; exact ((Below.refl _ w).alloc (Nat.le_refl _) _).alloc (by simp; try omega) _
  have Q0 : Hid (W0.heap[w.heap.size]? = some (.cells #[.slice M nm cm, .int .i64 s] 29)) := by rw [← hW0]; exact heap2a w _ _
  have R0 : Hid (W0.heap[w.heap.size + 1]? = some (.cells #[.slice none 0 0, .int .i64 0, .slice none 0 0] 32)) := by rw [← hW0]; exact heap2b w _ _
  have zW0 : W0.heap.size = w.heap.size + 2 := by rw [← hW0]; simp
  go_enter Tryz.func21, Tryz.ntmps21
  go_wp2_with fail
  clear hW0
  have hW2 : w.heap.size + 2 ≤ W0.heap.size := by omega
  clear zW0
  refine wp_region_own (W := W0) [] (fun _ => True) stays_true trivial [0, 0, 1, 0, 0, 0, 0, 2, 3] (by kernel_rfl) (by kernel_rfl) (by kernel_rfl) ?_
  have fQ : ∀ q : In (plainEnv W0 []), _ := fun q => (blk2 (q.block Q0.out (by simp))).1
  refine wpO_quiet 2 rfl (by kernel_rfl) ?_
  simp only [List.take, List.drop]
  repeat (go_big_quiet_step (fail))
  refine wpQuiet_nil ?_
  refine wpO_callx (f := 42) (args := #[.slice M nm cm]) (α := Nat × Nat) (fun z => .slice (some ⟨z.1, 0, none⟩) nm z.2) (fun z => [z.1]) (fun z w' => OwnN w' W0.heap.size zs (some ⟨z.1, 0, none⟩) nm z.2) rfl (fun w' => by simp [go_sem]) (fun z w1 w2 hw h b => h.on b) (fun G => ?_) (fun w' hw hF => ?_) (fun z hz => ?_)
  · obtain ⟨g, hg, hn⟩ := fresh_above W0.heap.size G
    exact ⟨(g, 0), fun k hk => by simp at hk; subst hk; exact ⟨hg, hn⟩⟩
  · have kb := kept_below hw
    exact (numsCopied_any M nm cm zs w' ((E.out.mem.below (K0.out.trans (kb.mono K0.out.size))).mono (Nat.le_trans K0.out.size kb.size)) hMz hnm).mono fun e w'' ⟨g, cb, he, m, b1⟩ => ⟨(g, cb), he, m.mono kb.size, b1, fun k hk => by simp at hk; subst hk; exact m.lt rfl⟩
  obtain ⟨gm, cb⟩ := z
  dsimp only
  simp only [Act.put, List.setIfInBounds_toArray, List.set_cons_succ, List.set_cons_zero]
  refine wpO_quiet 4 rfl (by kernel_rfl) ?_
  simp only [List.take, List.drop]
  repeat (go_big_quiet_step (fail))
  refine wpQuiet_nil ?_
  refine wpO_alloc (.cells #[.slice none 0 0, .int .i64 0, .slice none 0 0] 32) rfl (fun w' => by simp [go_sem]) fun og mgO hng => ?_
  have hgO : W0.heap.size ≤ og := mgO
  have hneO : gm ≠ og := fun e => hng (by simp [e])
  simp only [Act.put, List.setIfInBounds_toArray, List.set_cons_succ, List.set_cons_zero]
  refine wpO_store (g := og) (t := 32) (old := #[.slice none 0 0, .int .i64 0, .slice none 0 0]) (fun w' => OwnN w' W0.heap.size zs (some ⟨gm, 0, none⟩) nm cb) #[.slice (some ⟨gm, 0, none⟩) nm cb, .int .i64 s, .slice none 0 0] rfl rfl rfl rfl (Env.own _ mgO) (by kernel_rfl) rfl rfl (fun w' h => ⟨h.1.2, h.2⟩) (fun w1 w2 hw h b => h.on b) (fun w1 w2 hw h => h.heap (fun k e => by have e1 : gm = k := Option.some.inj e; subst e1; exact hw gm (h.lt rfl).2 hneO)) ?_
  simp only [Act.put]
  refine wpO_nil ?_
  rintro w1 hb' ⟨hM, hO⟩
  have hb := kept_below hb'
  have lO : og < w1.heap.size := blk_in hO
  have lM : W0.heap.size ≤ gm ∧ gm < w1.heap.size := hM.lt rfl
  have RR := Lib.hid (blk_on hb R0.out)
  have KK := Lib.hid (K0.out.trans (hb.mono K0.out.size))
  have MM := Lib.hid hM
  have OO := Lib.hid hO
  clear hb hb' hM hO Q0 R0 fQ hz hng mgO
  have lR : w.heap.size + 1 < w1.heap.size := blk_in RR.out
  go_wp2
  go_loopw [17] (fun i wr => ∃ (k : Nat) (A' : Option Addr) (c' : Nat) (hs : List SeatH), k ≤ n ∧ i = .int .i64 k ∧ Hid (wr.heap[og]? = some (.cells #[.slice (some ⟨gm, 0, none⟩) nm cb, .int .i64 s, .slice A' k c'] 32)) ∧ Hid (RowS wr w1.heap.size A' k c' hs (ss.take k)) ∧ Hid (GrownS w1 wr (fun t => t = og)) ∧ w1.heap.size ≤ wr.heap.size) (fun i _ => n - (intOf i).toNat)
  case atStart => exact ⟨0, none, 0, [], Nat.zero_le _, rfl, OO.out, by rw [List.take_zero]; exact rowS_nil _ _, GrownS.refl _ _, Nat.le_refl _⟩
  case round =>
    obtain ⟨k, A', c', hs, hk, rfl, hO, hR, hB, hzr⟩ := hrel
    have KW : Below w.heap.size w wr := hB.out.below KK.out KK.out.size (fun j e => by have e1 : j = og := e; omega)
    by_cases hlt : k < n
    · obtain ⟨b, off, ⟨⟨st, sh, sd, sp, ⟨⟨eu, es, eh, ea⟩, en⟩, ⟨⟨fu, fs, fh, fa⟩, fn⟩⟩, xA, xn, xc⟩, q, rfl, hb, hq, e1, g1, E1, xz⟩ := E.out.seats.at hlt
      obtain ⟨c0, c1, c2, c3, c4, c5, c6, c7, c8, c9, c10, c11, c12, c13, c14⟩ := seat_at (g1.heap (KW.block b hb))
      dsimp only at c0 c1 c2 c3 c4 c5 c6 c7 c8 c9 c10 c11 c12 c13 c14
      have hql := HL.out q (List.mem_of_getElem? hq)
      have hxl : q.l.length = xn := E1.1
      have e2 : ⟨st, sh, sd, sp, ⟨⟨eu, es, eh, ea⟩, en⟩, ⟨⟨fu, fs, fh, fa⟩, fn⟩⟩ = q.s := e1
      have hk0 : (0 : Int) ≤ (k : Int) := by omega
      have hkn : (k : Int) < (n : Int) := by omega
      have HE := Lib.hid E1
      have HQ2 := Lib.hid hq
      have HX := Lib.hid e2
      clear e1 e2 g1 E1 hq
      obtain ⟨W1, hW1⟩ : ∃ V, wr.alloc (.cells #[.int .i64 st, .int .i64 sh, .int .i64 sd, .int .i64 sp, .int .i64 eu, .int .i64 es, .int .i64 eh, .int .i64 ea, .int .i64 en, .int .i64 fu, .int .i64 fs, .int .i64 fh, .int .i64 fa, .int .i64 fn, .slice xA xn xc] 68) = V := ⟨_, rfl⟩
      have b1 : Below wr.heap.size wr W1 := by rw [← hW1]; exact (Below.refl _ wr).alloc (Nat.le_refl _) _
      have X1 : Hid (W1.heap[wr.heap.size]? = some (.cells #[.int .i64 st, .int .i64 sh, .int .i64 sd, .int .i64 sp, .int .i64 eu, .int .i64 es, .int .i64 eh, .int .i64 ea, .int .i64 en, .int .i64 fu, .int .i64 fs, .int .i64 fh, .int .i64 fa, .int .i64 fn, .slice xA xn xc] 68)) := by rw [← hW1]; exact heap1 wr _
      have hO1 := Lib.hid (blk_on b1 hO.out)
      have hR1 := Lib.hid (hR.out.on b1)
      have hB1 : Hid (GrownS w1 W1 (fun t => t = og)) := hB.out.trans (GrownS.low b1)
      have KW1 := Lib.hid (KW.trans (b1.mono KW.size))
      have s1 : wr.heap.size < W1.heap.size := blk_in X1.out
      have hzr1 : w1.heap.size ≤ W1.heap.size := by omega
      have hfoot : ∀ t, blkA A' = some t → w1.heap.size ≤ t ∧ t < wr.heap.size := fun t e => hR.out.foot (.inl e)
      have hbA : ∀ t, t < w1.heap.size → blkA A' ≠ some t := fun t ht e => by have := (hfoot t e).1; omega
      clear hO hR hB KW b1
      go_wp2
      clear hW1 c0 c1 c2 c3 c4 c5 c6 c7 c8 c9 c10 c11 c12 c13 c14
      have hS0 : Stays (plainEnv W1 (og :: (blkA A').toList)) (fun w' => w'.heap[og]? = some (.cells #[.slice (some ⟨gm, 0, none⟩) nm cb, .int .i64 s, .slice A' k c'] 32) ∧ w'.ownsRow w1.heap.size 68 15 (.slice A' k c') k (hs.flatMap Cells.cells)) := stays_and (stays_blk (E := plainEnv W1 (og :: (blkA A').toList)) (.inr (by simp)) _) (fun w1 w2 hc h b => own_heap h fun t e => b.block t (h.lt t (by rw [← e]; cases A' <;> rfl)).2)
      refine wp_region_own (W := W1) (og :: (blkA A').toList) (fun w' => w'.heap[og]? = some (.cells #[.slice (some ⟨gm, 0, none⟩) nm cb, .int .i64 s, .slice A' k c'] 32) ∧ w'.ownsRow w1.heap.size 68 15 (.slice A' k c') k (hs.flatMap Cells.cells)) hS0 ⟨hO1.out, hR1.out.own⟩ [0, 5, 0, 1, 2, 3, 0, 3] (by kernel_rfl) (by kernel_rfl) (by kernel_rfl) ?_
      have rX : Hid (∀ x : In (plainEnv W1 (og :: (blkA A').toList)), x.w.heap[wr.heap.size]? = some (.cells #[.int .i64 st, .int .i64 sh, .int .i64 sd, .int .i64 sp, .int .i64 eu, .int .i64 es, .int .i64 eh, .int .i64 ea, .int .i64 en, .int .i64 fu, .int .i64 fs, .int .i64 fh, .int .i64 fa, .int .i64 fn, .slice xA xn xc] 68)) := fun x => x.block X1.out (by simp; exact ⟨by omega, fun e => by have := (hfoot _ e).2; omega⟩)
      refine wpO_quiet 1 rfl (by kernel_rfl) ?_
      simp only [List.take, List.drop]
      repeat (go_big_quiet_step (fail))
      refine wpQuiet_nil ?_
      refine wpO_cell5 (g := og) (i := 2) (cs := #[.slice (some ⟨gm, 0, none⟩) nm cb, .int .i64 s, .slice A' k c']) (.slice A' k c') rfl hS0 (fun w' hw hF => hF.1) rfl (fun w' h => by simp [go_sem, h]) ?_
      simp only [Act.put, List.setIfInBounds_toArray, List.set_cons_succ, List.set_cons_zero]
      refine wpO_load_row rfl 68 _ rfl (wr.heap.size) rfl 68 _ (0, 0) _ rX.out Tryz.underlying68 rfl (by kernel_rfl) ?_
      simp only [Act.put, List.setIfInBounds_toArray, List.set_cons_succ, List.set_cons_zero]
      refine wpO_callx (f := 43) (args := #[.agg #[.int .i64 st, .int .i64 sh, .int .i64 sd, .int .i64 sp, .int .i64 eu, .int .i64 es, .int .i64 eh, .int .i64 ea, .int .i64 en, .int .i64 fu, .int .i64 fs, .int .i64 fh, .int .i64 fa, .int .i64 fn, .slice xA xn xc]]) (α := Nat × Nat) (fun z => .agg #[.int .i64 st, .int .i64 sh, .int .i64 sd, .int .i64 sp, .int .i64 eu, .int .i64 es, .int .i64 eh, .int .i64 ea, .int .i64 en, .int .i64 fu, .int .i64 fs, .int .i64 fh, .int .i64 fa, .int .i64 fn, .slice (some ⟨z.1, 0, none⟩) xn z.2]) (fun z => [z.1]) (fun z w' => MadeE w' W1.heap.size 107 q.l z.1 z.2) rfl (fun w' => by simp [go_sem]) (fun z w1 w2 hw h b => h.below b) (fun G => ?_) (fun w' hw hF => ?_) (fun z hz => ?_)
      · obtain ⟨g, hg, hn⟩ := fresh_above W1.heap.size G
        exact ⟨(g, 0), fun k hk => by simp at hk; subst hk; exact ⟨hg, hn⟩⟩
      · have hz' := hw.size
        have KW' : Below w.heap.size w w' := KW1.out.trans ⟨hw.os, hw.tape, hw.output, hw.size, fun t ht => hw.block t (by have := KW1.out.size; omega) (by simp; exact ⟨by omega, hbA t (by have := KK.out.size; omega)⟩)⟩
        exact (copied_any ⟨st, sh, sd, sp, ⟨⟨eu, es, eh, ea⟩, en⟩, ⟨⟨fu, fs, fh, fa⟩, fn⟩⟩ xA xn xc q.l w' ((HE.out.below KW').mono KW'.size) xz (by omega)).mono fun e w'' ⟨g, cb, he, m, b1⟩ => ⟨(g, cb), he, m.mono hz', b1, fun k hk => by simp at hk; subst hk; exact m.base⟩
      obtain ⟨lg, lc⟩ := z
      have hlg : W1.heap.size ≤ lg := (hz lg (by simp)).1
      dsimp only
      simp only [Act.put, List.setIfInBounds_toArray, List.set_cons_succ, List.set_cons_zero]
      refine wpO_row (.cells #[.int .i64 st, .int .i64 sh, .int .i64 sd, .int .i64 sp, .int .i64 eu, .int .i64 es, .int .i64 eh, .int .i64 ea, .int .i64 en, .int .i64 fu, .int .i64 fs, .int .i64 fh, .int .i64 fa, .int .i64 fn, .slice (some ⟨lg, 0, none⟩) xn lc] 68) 1 rfl (fun w' => by simp [go_sem]) fun ge mge hge => ?_
      simp only [Act.put, List.setIfInBounds_toArray, List.set_cons_succ, List.set_cons_zero]
      refine wpO_appendA (fun w' => w'.heap[og]? = some (.cells #[.slice (some ⟨gm, 0, none⟩) nm cb, .int .i64 s, .slice A' k c'] 32) ∧ MadeE w' W1.heap.size 107 q.l lg lc) _ _ 30 rfl rfl w1.heap.size 68 i0 (SeatV.val .zero none 0 0) 15 by0 Tryz.underlying30 hi hz0 hz1 hz2 rfl (by decide) k (hs.flatMap Cells.cells) A' c' rfl (fun t e => .inr (by simp; exact .inr e)) ⟨ge, 0, none⟩ 1 1 ([(SeatH.mk ⟨st, sh, sd, sp, ⟨⟨eu, es, eh, ea⟩, en⟩, ⟨⟨fu, fs, fh, fa⟩, fn⟩⟩ (some ⟨lg, 0, none⟩) xn lc)].flatMap Cells.cells) rfl rfl flat_one (by omega) (by unfold maxLen; omega) (Nat.le_trans (Nat.mul_le_mul (by omega : k + 1 ≤ 1048577) hby) (by decide)) hzr1 (fun w' hw hF => ⟨⟨hF.1.1.1, hF.1.2⟩, hF.1.1.2, fun j u hu => by rw [Go.WideShapes.add_plain, Nat.zero_add, blk_cell hF.2, ← Array.getElem?_toList]; rw [List.flatMap_cons, List.flatMap_nil, List.append_nil] at hu; exact hu⟩) (stays_and (stays_blk (E := plainEnv W1 (og :: (blkA A').toList)) (.inr (by simp)) _) (fun w1 w2 hw h b => h.below b)) (fun w1 w2 hk h => ⟨(hk og (blk_in h.1) (hbA og lO)).trans h.1, h.2.heap (hk lg h.2.base.2 (fun e => by have := (hfoot lg e).2; omega))⟩) (fun gb' cb' hgb' hgm => ?_)
      simp only [Act.put, List.setIfInBounds_toArray, List.set_cons_succ, List.set_cons_zero]
      refine wpO_quiet 1 rfl (by kernel_rfl) ?_
      simp only [List.take, List.drop]
      repeat (go_big_quiet_step (fail))
      refine wpQuiet_nil ?_
      refine wpO_put (g := og) (i := 2) (t := 32) (cs := #[.slice (some ⟨gm, 0, none⟩) nm cb, .int .i64 s, .slice A' k c']) (fun w' => MadeE w' W1.heap.size 107 q.l lg lc ∧ w'.ownsRow w1.heap.size 68 15 (.slice (some ⟨gb', 0, none⟩) (k + 1) cb') (k + 1) (hs.flatMap Cells.cells ++ [(SeatH.mk ⟨st, sh, sd, sp, ⟨⟨eu, es, eh, ea⟩, en⟩, ⟨⟨fu, fs, fh, fa⟩, fn⟩⟩ (some ⟨lg, 0, none⟩) xn lc)].flatMap Cells.cells)) (.slice (some ⟨gb', 0, none⟩) (k + 1) cb') rfl (.inr (by simp)) (fun w' h => by have h1 := blk_cell h 2; have h2 := blk_frozen h 2; simp [go_sem, h1, h2]) (fun w' h => ⟨⟨h.1.2, h.2⟩, h.1.1⟩) (stays_and (fun w1 w2 hw h b => h.below b) (fun w1 w2 hc h b => own_heap h fun t e => b.block t (h.lt t e).2)) (fun w1 w2 hw h => ⟨h.1.heap (hw lg h.1.base.2 (by omega)), own_heap h.2 fun t e => hw t (h.2.lt t e).2 (by have e1 : gb' = t := Option.some.inj e; omega)⟩) ?_
      simp only [Act.put]
      refine wpO_nil ?_
      rintro w6 b6 ⟨⟨h1, h2⟩, h3⟩
      have HO := Lib.hid h3
      have hs6 := b6.size
      have HN : Hid (RowS w6 w1.heap.size (some ⟨gb', 0, none⟩) (k + 1) cb' (hs ++ [SeatH.mk ⟨st, sh, sd, sp, ⟨⟨eu, es, eh, ea⟩, en⟩, ⟨⟨fu, fs, fh, fa⟩, fn⟩⟩ (some ⟨lg, 0, none⟩) xn lc]) (ss.take (k + 1))) := by
        have ht : ss.take (k + 1) = ss.take k ++ [q] := by rw [List.take_add_one, HQ2.out]; rfl
        show RowS _ _ _ _ _ _ _
        rw [ht]
        refine hR1.out.next _ q HX.out (.inr ⟨lg, rfl, hxl.symm, h1⟩) hzr1 (fun j y hy t ht => b6.block t (hR1.out.foot (.inr ⟨j, y, hy, ht⟩)).2 ?_) (by rw [List.flatMap_append]; exact h2)
        have h5 := (hR1.out.foot (.inr ⟨j, y, hy, ht⟩)).1
        have h6 := hR1.out.apart.front j y hy t ht
        simp
        exact ⟨by omega, h6⟩
      have HB6 : Hid (GrownS w1 w6 (fun t => t = og)) := ⟨b6.os.trans hB1.out.os, b6.tape.trans hB1.out.tape, b6.output.trans hB1.out.output, Nat.le_trans hB1.out.size b6.size, fun t ht hne => (b6.block t (Nat.lt_of_lt_of_le ht hB1.out.size) (by simp; exact ⟨hne, hbA t ht⟩)).trans (hB1.out.block t ht hne)⟩
      clear h1 h2 h3 b6 HE HX HQ2 hS0 rX hO1 hR1 hB1 KW1 X1 hfoot hbA
      go_wp2
      go_roundw
      case rel => exact ⟨k + 1, some ⟨gb', 0, none⟩, cb', _, by omega, by go_num, HO.out, HN.out, HB6.out, by omega⟩
      case measure => simp [intOf]; omega
    · obtain rfl : k = n := by omega
      have hlt' : ¬ (k : Int) < (k : Int) := by omega
      have R1 := Lib.hid ((hB.out.block _ lR (by omega)).trans RR.out)
      have KW2 := Lib.hid KW
      have HI : Hid (HeldI wr W0.heap.size ⟨some ⟨gm, 0, none⟩, nm, cb, A', k, c', hs⟩ zs ss) := ⟨MM.out.heap (fun t e => hB.out.block t (by have e1 : gm = t := Option.some.inj e; omega) (by have e1 : gm = t := Option.some.inj e; omega)), by
        have h9 := hR.out.held.mono (base' := W0.heap.size) (by omega)
        rw [List.take_of_length_le (by rw [hlen]; exact Nat.le_refl _)] at h9
        exact h9, fun t e1 e2 => by
        have e3 : gm = t := Option.some.inj e1
        have := (hR.out.foot e2).1
        omega⟩
      have hO2 := hO
      clear hR hO hB KW
      go_wp2_with (first | (refine wpList_load_row rfl 32 _ rfl og rfl 32 _ (0, 0) _ hO2.out Tryz.underlying32 rfl (by kernel_rfl) ?_) | (refine wpList_store_row rfl 32 _ _ rfl (w.heap.size + 1) #[.slice (some ⟨gm, 0, none⟩) nm cb, .int .i64 s, .slice A' k c'] rfl rfl 32 _ R1.out (by kernel_rfl) rfl (by simp [Value.oneCell']) ?_))
      exact row_ret (r := w.heap.size + 1) (cs := #[.slice (some ⟨gm, 0, none⟩) nm cb, .int .i64 s, .slice A' k c']) rfl rfl (setRow_heap _ _ _ _ _ _ R1.out) Tryz.underlying32 rfl (by kernel_rfl) rfl ⟨⟨some ⟨gm, 0, none⟩, nm, cb, A', k, c', hs⟩, rfl, rfl, rfl, (HI.out.heap (fun t e => setRow_other _ _ _ _ (by have := (HI.out.foot e).1; omega)) (Nat.le_of_eq (size_setRow _ _ _).symm)).mono (by omega), below_setRow KW2.out (by omega) _⟩

set_option maxRecDepth 100000 in
set_option maxHeartbeats 8000000 in
theorem copiedInn_any (M : Option Addr) (nm cm : Nat) (zs : List Int) (s : Int) (A : Option Addr) (n cap : Nat) (ss : List SeatL) (w : World) (h : InnO w w.heap.size M nm A n zs ss) (hMz : M = none → cm = 0) (hnm : nm ≤ 1048576) (hn : n ≤ 1048576) (hl : ∀ q ∈ ss, q.l.length ≤ 1048576) :
    Calls Tryz.prog 20 #[.agg #[.slice M nm cm, .int .i64 s, .slice A n cap]] w fun e w' => ∃ i : InnH, e = .returned (i.val s) ∧ i.mn = nm ∧ i.n = n ∧ HeldI w' w.heap.size i zs ss ∧ Below w.heap.size w w' := by
  have E := Lib.hid h
  have cW : Hid (∀ (w' : World), InnO w' w'.heap.size M nm A n zs ss → Calls Tryz.prog 21 #[.agg #[.slice M nm cm, .int .i64 s], .slice A n cap] w' fun e w'' => ∃ i : InnH, e = .returned (i.val s) ∧ i.mn = nm ∧ i.n = n ∧ HeldI w'' w'.heap.size i zs ss ∧ Below w'.heap.size w' w'') := fun w' hE => innWith_any M nm cm zs s A n cap ss w' hE hMz hnm hn hl
  clear h hl
  obtain ⟨W0, hW0⟩ : ∃ W, (w.alloc (.cells #[.slice M nm cm, .int .i64 s, .slice A n cap] 32)).alloc (.cells #[.slice none 0 0, .int .i64 0, .slice none 0 0] 32) = W := ⟨_, rfl⟩
  have K0 : Hid (Below w.heap.size w W0) := by rw [← hW0]; exact ((Below.refl _ w).alloc (Nat.le_refl _) _).alloc (by simp; try omega) _
  have Q0 : Hid (W0.heap[w.heap.size]? = some (.cells #[.slice M nm cm, .int .i64 s, .slice A n cap] 32)) := by rw [← hW0]; exact heap2a w _ _
  have R0 : Hid (W0.heap[w.heap.size + 1]? = some (.cells #[.slice none 0 0, .int .i64 0, .slice none 0 0] 32)) := by rw [← hW0]; exact heap2b w _ _
  go_enter Tryz.func20, Tryz.ntmps20
  obtain ⟨⟨a0, a1, a2⟩, _⟩ := blk3 Q0.out
  go_wp2_with fail
  clear a0 a1 a2
  have lR := blk_in R0.out
  refine (cW.out _ ((E.out.below K0.out).mono K0.out.size)).mono ?_
  rintro e w1 ⟨⟨iM, im, ic, iA, il, iC, ih⟩, rfl, hm1, hm2, HI, hb⟩
  obtain rfl : nm = im := hm1.symm
  obtain rfl : n = il := hm2.symm
  have HH := Lib.hid HI
  have hW1 : w.heap.size + 2 ≤ W0.heap.size := by rw [← hW0]; simp
  clear HI hW0
  have Q1 := Lib.hid (blk_on hb Q0.out)
  have R1 := Lib.hid (blk_on hb R0.out)
  have K1 := Lib.hid (K0.out.trans (hb.mono K0.out.size))
  clear hb Q0 R0 K0
  go_wp2_with (refine wpList_store_row rfl 32 _ _ rfl (w.heap.size + 1) #[.slice iM nm ic, .int .i64 s, .slice iA n iC] rfl rfl 32 _ R1.out (by kernel_rfl) rfl (by simp [Value.oneCell']) ?_)
  exact row_ret (r := w.heap.size + 1) (cs := #[.slice iM nm ic, .int .i64 s, .slice iA n iC]) rfl rfl (setRow_heap _ _ _ _ _ _ R1.out) Tryz.underlying32 rfl (by kernel_rfl) rfl ⟨(InnH.mk iM nm ic iA n iC ih), rfl, rfl, rfl, (HH.out.heap (fun t e => setRow_other _ _ _ _ (by have := (HH.out.foot e).1; omega)) (Nat.le_of_eq (size_setRow _ _ _).symm)).mono (by omega), below_setRow K1.out (by omega) _⟩

end Go.Proofs.YtioogmeghmeelaaGreat.Tx
namespace Go.Proofs.YtioogmeghmeelaaGreat.Tx
open Go.RowKit

set_option maxRecDepth 100000 in
set_option maxHeartbeats 2000000 in
theorem NewMemory_impl (now : Int) (w : World) : Calls Tryz.prog 19 #[.int .i64 now] w (MemOut [] (sinceI [] now) (memB [] now) w) := by
  obtain ⟨V, hV⟩ : ∃ V, w.alloc (.cells #[.slice none 0 0, .int .i64 0] 29) = V := ⟨_, rfl⟩
  have K : Hid (Below w.heap.size w V) := by rw [← hV]; exact (Below.refl _ w).alloc (Nat.le_refl _) _
  have R : Hid (V.heap[w.heap.size]? = some (.cells #[.slice none 0 0, .int .i64 0] 29)) := by rw [← hV]; exact heap1 w _
  have sV : V.heap.size = w.heap.size + 1 := by rw [← hV]; simp
  have cR : Hid (Calls Tryz.prog 40 #[.agg #[.slice none 0 0, .int .i64 now]] V fun e w' => ∃ b, e = .returned (.tuple #[.agg #[.map (some b), .int .i64 (sinceI [] now)], .bool (memB [] now)]) ∧ Places w' b [] ∧ V.heap.size ≤ b ∧ Below V.heap.size V w') := by
    have h1 := recallOf_any none 0 0 [] now V (nums_nil _ _ _) allI64_nil (by omega)
    have h2 : seenL [] now = [] := by unfold seenL; split <;> rfl
    unfold RecOut at h1
    rw [h2] at h1
    exact h1
  generalize sinceI [] now = s at cR ⊢
  generalize memB [] now = y at cR ⊢
  go_enter Tryz.func19, Tryz.ntmps19
  go_wp2_with fail
  clear hV
  refine cR.out.mono ?_
  rintro e w1 ⟨x, rfl, hp, hx, b⟩
  have P := Lib.hid hp
  replace R := Lib.hid (blk_on b R.out)
  replace K := Lib.hid (K.out.trans (b.mono K.out.size))
  have s1 := b.size
  clear hp b cR
  obtain ⟨W2, hW2⟩ : ∃ W, w1.alloc (.cells #[.map (some x), .int .i64 s] 80) = W := ⟨_, rfl⟩
  have b : Below w1.heap.size w1 W2 := hW2 ▸ (Below.refl _ w1).alloc (Nat.le_refl _) _
  have G : Hid (W2.heap[w1.heap.size]? = some (.cells #[.map (some x), .int .i64 s] 80)) := by rw [← hW2]; exact heap1 w1 _
  have s2 := b.size
  replace P := Lib.hid (P.out.on b)
  replace R := Lib.hid (blk_on b R.out)
  replace K := Lib.hid (K.out.trans (b.mono K.out.size))
  clear b
  obtain ⟨⟨g0, g1⟩, _⟩ := blk2 G.out
  go_wp2_with fail
  clear hW2 g0 g1
  refine (told_any x [] List.nodup_nil (by simp) s W2 P.out).mono ?_
  rintro e w3 ⟨rfl, hrow, b⟩
  replace R := Lib.hid (blk_on b R.out)
  replace K := Lib.hid (K.out.trans (b.mono K.out.size))
  have O := Lib.hid (ownN_row (base := w.heap.size) hrow rfl (by omega) (by simp))
  have s3 := b.size
  clear b hrow
  obtain ⟨⟨r0, r1⟩, p0, p1⟩ := blk2 R.out
  go_wp2
  exact row_ret2 (r := w.heap.size) (cs := #[.slice (some ⟨W2.heap.size + 2, 0, none⟩) 0 0, .int .i64 s]) rfl rfl rfl (setAll_whole (vs := [.slice (some ⟨W2.heap.size + 2, 0, none⟩) 0 0, .int .i64 s]) R.out rfl) Tryz.underlying29 rfl (by kernel_rfl) rfl
    ⟨some ⟨W2.heap.size + 2, 0, none⟩, 0, 0, rfl, O.out.heap (fun k e => by obtain rfl : W2.heap.size + 2 = k := Option.some.inj e; exact setAll_off (g := w.heap.size) (by omega) [.slice (some ⟨W2.heap.size + 2, 0, none⟩) 0 0, .int .i64 s] 0), setAll_below (g := w.heap.size) (by omega) [.slice (some ⟨W2.heap.size + 2, 0, none⟩) 0 0, .int .i64 s] 0 K.out⟩

-- MADE by gen/impl8d.py from here on

/-- What recallOf makes, where the Memory is right, and where it is not. -/
theorem recall_right {A : Option Addr} {n cap : Nat} {zs : List Int} {s : Int} {w : World} (h : Nums w w.heap.size A n zs) (hi : AllI64 zs) (hn : n ≤ 1048576) (hM : memB zs s = true) :
    Calls Tryz.prog 40 #[.agg #[.slice A n cap, .int .i64 s]] w fun e w' => ∃ b, e = .returned (.tuple #[.agg #[.map (some b), .int .i64 s], .bool true]) ∧ Places w' b zs ∧ w.heap.size ≤ b ∧ Below w.heap.size w w' := by
  have h1 := recallOf_any A n cap zs s w h hi hn
  unfold RecOut at h1
  rwa [sinceI_true hM, seenL_true hM, hM] at h1
theorem recall_wrong {A : Option Addr} {n cap : Nat} {zs : List Int} {s z : Int} {w : World} (h : Nums w w.heap.size A n zs) (hi : AllI64 zs) (hn : n ≤ 1048576) (hM : memB zs s = false) (hz : z = 0) :
    Calls Tryz.prog 40 #[.agg #[.slice A n cap, .int .i64 s]] w fun e w' => ∃ b, e = .returned (.tuple #[.agg #[.map (some b), .int .i64 z], .bool false]) ∧ Places w' b [] ∧ w.heap.size ≤ b ∧ Below w.heap.size w w' := by
  have h1 := recallOf_any A n cap zs s w h hi hn
  unfold RecOut at h1
  rwa [sinceI_false hM, seenL_false hM, hM, ← hz] at h1
theorem places_ne {w : World} {b k : Nat} {zs : List Int} {cs : Array Value} {t : TypeId} {f : Nat × Nat} (h : Places w b zs) (hb : w.heap[k]? = some (.cells cs t f)) : k ≠ b := fun e => by
  subst e
  obtain ⟨es, clock, h1, _⟩ := h
  rw [hb] at h1; cases h1

end Go.Proofs.YtioogmeghmeelaaGreat.Tx
namespace Go.Proofs.YtioogmeghmeelaaGreat.Tx
open Go.RowKit

set_option maxRecDepth 100000 in
set_option maxHeartbeats 32000000 in
theorem Fallen_impl (M : Option Addr) (nm cm : Nat) (zs : List Int) (s : Int) (A : Option Addr) (n cap : Nat) (ss : List SeatL) (now : Int) (w : World) (h : InnO w w.heap.size M nm A n zs ss) (hMz : M = none → cm = 0) (_ : AllI64 zs) (hnm : nm ≤ 1048576) (hn : n ≤ 1048576) (hl : ∀ q ∈ ss, q.l.length ≤ 1048576) :
    Calls Tryz.prog 7 #[.agg #[.slice M nm cm, .int .i64 s, .slice A n cap], .int .i64 now] w fun e w' => ∃ i : InnH, e = .returned (.tuple #[i.val (fallT zs s ss now), .bool (fallB zs s ss now)]) ∧ HeldI w' w.heap.size i (fallZ zs s ss now) (fallL zs s ss now) ∧ Below w.heap.size w w' := by
  have E := Lib.hid h
  have HL := Lib.hid hl
  have hlen := h.seats.len
  have cO : Hid (∀ (w' : World), InnO w' w'.heap.size M nm A n zs ss → Calls Tryz.prog 18 #[.agg #[.slice M nm cm, .int .i64 s, .slice A n cap]] w' fun e w'' => e = .returned (.bool (innOkB zs s ss)) ∧ Below w'.heap.size w' w'') := fun w' hE => InnOk_impl0 M nm cm zs s A n cap ss w' hE.mem hE.seats hnm hn
  have cC : Hid (∀ (w' : World), InnO w' w'.heap.size M nm A n zs ss → Calls Tryz.prog 20 #[.agg #[.slice M nm cm, .int .i64 s, .slice A n cap]] w' fun e w'' => ∃ i : InnH, e = .returned (i.val s) ∧ i.mn = nm ∧ i.n = n ∧ HeldI w'' w'.heap.size i zs ss ∧ Below w'.heap.size w' w'') := fun w' hE => copiedInn_any M nm cm zs s A n cap ss w' hE hMz hnm hn hl
  obtain ⟨bo, hok⟩ : ∃ b, innOkB zs s ss = b := ⟨_, rfl⟩
  clear h hl
  obtain ⟨W0, hW0⟩ : ∃ W, (w.alloc (.cells #[.slice M nm cm, .int .i64 s, .slice A n cap] 32)).alloc (.cells #[.slice none 0 0, .int .i64 0, .slice none 0 0] 32) = W := ⟨_, rfl⟩
  have K0 : Hid (Below w.heap.size w W0) := by rw [← hW0]; exact ((Below.refl _ w).alloc (Nat.le_refl _) _).alloc (by simp; try omega) _
  have Q0 : Hid (W0.heap[w.heap.size]? = some (.cells #[.slice M nm cm, .int .i64 s, .slice A n cap] 32)) := by rw [← hW0]; exact heap2a w _ _
  have R0 : Hid (W0.heap[w.heap.size + 1]? = some (.cells #[.slice none 0 0, .int .i64 0, .slice none 0 0] 32)) := by rw [← hW0]; exact heap2b w _ _
  have zW0 : W0.heap.size = w.heap.size + 2 := by rw [← hW0]; simp
  go_enter Tryz.func7, Tryz.ntmps7
  go_wp2_with (refine wpList_load_row rfl 32 _ rfl (w.heap.size) rfl 32 _ (0, 0) _ Q0.out Tryz.underlying32 rfl (by kernel_rfl) ?_)
  clear hW0
  have cz := cO.out _ ((E.out.below K0.out).mono K0.out.size)
  rw [hok] at cz
  refine cz.mono ?_
  rintro e w1 ⟨rfl, hb⟩
  have hs1 := hb.size
  clear cz
  have Q1 := Lib.hid (blk_on hb Q0.out)
  have R1 := Lib.hid (blk_on hb R0.out)
  have K1 := Lib.hid (K0.out.trans (hb.mono K0.out.size))
  clear hb Q0 R0 K0
  cases bo with
  | false =>
    have HE9 := Lib.hid (fall_bad hok now)
    go_wp2_with (refine wpList_store_row rfl 32 _ _ rfl (w.heap.size + 1) #[.slice none 0 0, .int .i64 0, .slice none 0 0] rfl rfl 32 _ R1.out (by kernel_rfl) rfl (by simp [Value.oneCell']) ?_)
    exact row_ret2 (r := w.heap.size + 1) (cs := #[.slice none 0 0, .int .i64 0, .slice none 0 0]) rfl rfl rfl (setRow_heap _ _ _ _ _ _ R1.out) Tryz.underlying32 rfl (by kernel_rfl) rfl ⟨(InnH.mk none 0 0 none 0 0 []), by rw [HE9.out.2.2.2, HE9.out.1]; rfl, by rw [HE9.out.2.1, HE9.out.2.2.1]; exact ⟨ownN_nil _ _, heldS_nil _ _, fun k e => by cases e⟩, below_setRow K1.out (by omega) _⟩
  | true =>
    go_wp2_with fail
    refine (NewMemory_impl now w1).mono ?_
    rintro e w2 ⟨NA, nn, nc, rfl, hM, hb⟩
    have NM := Lib.hid hM
    have hnl : ∀ t, blkN NA = some t → w1.heap.size ≤ t ∧ t < w2.heap.size := fun t e => hM.lt e
    have hs2 := hb.size
    clear hM
    have Q2 := Lib.hid (blk_on hb Q1.out)
    have R2 := Lib.hid (blk_on hb R1.out)
    have K2 := Lib.hid (K1.out.trans (hb.mono K1.out.size))
    clear hb Q1 R1 K1
    obtain ⟨V3, hV3⟩ : ∃ V, w2.alloc (.cells #[.slice none 0 0, .int .i64 0] 29) = V := ⟨_, rfl⟩
    have ltV3Q : w.heap.size < w2.heap.size := blk_in Q2.out
    have ltV3R : w.heap.size + 1 < w2.heap.size := blk_in R2.out
    have Q3 : Hid (V3.heap[w.heap.size]? = some (.cells #[.slice M nm cm, .int .i64 s, .slice A n cap] 32)) := by rw [← hV3]; exact alloc_blk Q2.out
    have R3 : Hid (V3.heap[w.heap.size + 1]? = some (.cells #[.slice none 0 0, .int .i64 0, .slice none 0 0] 32)) := by rw [← hV3]; exact alloc_blk R2.out
    have hb : Below w2.heap.size w2 V3 := by rw [← hV3]; exact (Below.refl _ w2).alloc (Nat.le_refl _) _
    have K3 := Lib.hid (K2.out.trans (hb.mono K2.out.size))
    have M3 : Hid (V3.heap[w2.heap.size]? = some (.cells #[.slice none 0 0, .int .i64 0] 29)) := by rw [← hV3]; exact heap1 w2 _
    have lbV3 : w.heap.size ≤ w2.heap.size := K2.out.size
    clear hb Q2 R2 K2
    obtain ⟨ns, hns⟩ : ∃ x, sinceI [] now = x := ⟨_, rfl⟩
    rw [hns]
    have Q4 : Hid ((V3.setRow w2.heap.size #[.slice NA nn nc, .int .i64 ns]).heap[w.heap.size]? = some (.cells #[.slice M nm cm, .int .i64 s, .slice A n cap] 32)) := (setRow_other _ _ _ _ (by omega)).trans Q3.out
    have R4 : Hid ((V3.setRow w2.heap.size #[.slice NA nn nc, .int .i64 ns]).heap[w.heap.size + 1]? = some (.cells #[.slice none 0 0, .int .i64 0, .slice none 0 0] 32)) := (setRow_other _ _ _ _ (by omega)).trans R3.out
    have M4 : Hid ((V3.setRow w2.heap.size #[.slice NA nn nc, .int .i64 ns]).heap[w2.heap.size]? = some (.cells #[.slice NA nn nc, .int .i64 ns] 29)) := setRow_heap _ _ _ _ _ _ M3.out
    have K4 : Hid (Below w.heap.size w (V3.setRow w2.heap.size #[.slice NA nn nc, .int .i64 ns])) := below_setRow K3.out (by omega) _
    have NM1 : OwnN V3 w1.heap.size [] NA nn nc := by rw [← hV3]; exact NM.out.alloc _
    have NM2 : Hid (OwnN (V3.setRow w2.heap.size #[.slice NA nn nc, .int .i64 ns]) w1.heap.size [] NA nn nc) := NM1.heap (fun t e => setRow_other _ _ _ _ (by have := hnl t e; omega))
    clear NM NM1
    have zV : V3.heap.size = w2.heap.size + 1 := by rw [← hV3]; simp
    have zS := size_setRow V3 w2.heap.size #[.slice NA nn nc, .int .i64 ns]
    cases hm : memB [] now with
    | false =>
      have hno := fall_no hok (now := now) (.inl hm)
      have HE9 := Lib.hid hno
      clear hno
      obtain ⟨⟨q0, q1, q2⟩, _⟩ := blk3 Q4.out
      go_wp2_with (first | (refine wpList_store_row rfl 29 _ _ rfl (w2.heap.size) #[.slice NA nn nc, .int .i64 ns] rfl rfl 29 _ M3.out (by kernel_rfl) rfl (by simp [Value.oneCell']) ?_) | (refine wpList_load_row rfl 32 _ rfl (w.heap.size) rfl 32 _ (0, 0) _ Q4.out Tryz.underlying32 rfl (by kernel_rfl) ?_))
      clear q0 q1 q2
      clear hV3 Q3 R3 M3 K3
      generalize V3.setRow w2.heap.size #[.slice NA nn nc, .int .i64 ns] = S4 at Q4 R4 M4 K4 NM2 zS ⊢
      refine (cC.out _ ((E.out.below K4.out).mono K4.out.size)).mono ?_
      rintro e wc ⟨⟨iM, im, ic, iA, il, iC, ih⟩, rfl, hm1, hm2, HI, hb⟩
      obtain rfl : nm = im := hm1.symm
      obtain rfl : n = il := hm2.symm
      have hzc : W0.heap.size ≤ S4.heap.size := by omega
      have HH := Lib.hid (HI.mono hzc)
      have hzd := hb.size
      clear HI
      have Q5 := Lib.hid (blk_on hb Q4.out)
      have R5 := Lib.hid (blk_on hb R4.out)
      have M5 := Lib.hid (blk_on hb M4.out)
      have K5 := Lib.hid (K4.out.trans (hb.mono K4.out.size))
      clear hb Q4 R4 M4 K4
      have HH2 := HH
      go_wp2_with (refine wpList_store_row rfl 32 _ _ rfl (w.heap.size + 1) #[.slice iM nm ic, .int .i64 s, .slice iA n iC] rfl rfl 32 _ R5.out (by kernel_rfl) rfl (by simp [Value.oneCell']) ?_)
      exact row_ret2 (r := w.heap.size + 1) (cs := #[.slice iM nm ic, .int .i64 s, .slice iA n iC]) rfl rfl rfl (setRow_heap _ _ _ _ _ _ R5.out) Tryz.underlying32 rfl (by kernel_rfl) rfl ⟨(InnH.mk iM nm ic iA n iC ih), by rw [HE9.out.2.2.2, HE9.out.1]; rfl, by rw [HE9.out.2.1, HE9.out.2.2.1]; exact (HH2.out.heap (fun t e => setRow_other _ _ _ _ (by have := (HH2.out.foot e).1; omega)) (Nat.le_of_eq (size_setRow _ _ _).symm)).mono (by omega), below_setRow K5.out (by omega) _⟩
    | true =>
      by_cases hlt : now < s
      ·
        have hno := fall_no hok (now := now) (.inr hlt)
        have HE9 := Lib.hid hno
        clear hno
        obtain ⟨⟨q0, q1, q2⟩, _⟩ := blk3 Q4.out
        go_wp2_with (first | (refine wpList_store_row rfl 29 _ _ rfl (w2.heap.size) #[.slice NA nn nc, .int .i64 ns] rfl rfl 29 _ M3.out (by kernel_rfl) rfl (by simp [Value.oneCell']) ?_) | (refine wpList_load_row rfl 32 _ rfl (w.heap.size) rfl 32 _ (0, 0) _ Q4.out Tryz.underlying32 rfl (by kernel_rfl) ?_))
        clear q0 q1 q2
        clear hV3 Q3 R3 M3 K3
        generalize V3.setRow w2.heap.size #[.slice NA nn nc, .int .i64 ns] = S4 at Q4 R4 M4 K4 NM2 zS ⊢
        refine (cC.out _ ((E.out.below K4.out).mono K4.out.size)).mono ?_
        rintro e wc ⟨⟨iM, im, ic, iA, il, iC, ih⟩, rfl, hm1, hm2, HI, hb⟩
        obtain rfl : nm = im := hm1.symm
        obtain rfl : n = il := hm2.symm
        have hzc : W0.heap.size ≤ S4.heap.size := by omega
        have HH := Lib.hid (HI.mono hzc)
        have hzd := hb.size
        clear HI
        have Q5 := Lib.hid (blk_on hb Q4.out)
        have R5 := Lib.hid (blk_on hb R4.out)
        have M5 := Lib.hid (blk_on hb M4.out)
        have K5 := Lib.hid (K4.out.trans (hb.mono K4.out.size))
        clear hb Q4 R4 M4 K4
        have HH2 := HH
        go_wp2_with (refine wpList_store_row rfl 32 _ _ rfl (w.heap.size + 1) #[.slice iM nm ic, .int .i64 s, .slice iA n iC] rfl rfl 32 _ R5.out (by kernel_rfl) rfl (by simp [Value.oneCell']) ?_)
        exact row_ret2 (r := w.heap.size + 1) (cs := #[.slice iM nm ic, .int .i64 s, .slice iA n iC]) rfl rfl rfl (setRow_heap _ _ _ _ _ _ R5.out) Tryz.underlying32 rfl (by kernel_rfl) rfl ⟨(InnH.mk iM nm ic iA n iC ih), by rw [HE9.out.2.2.2, HE9.out.1]; rfl, by rw [HE9.out.2.1, HE9.out.2.2.1]; exact (HH2.out.heap (fun t e => setRow_other _ _ _ _ (by have := (HH2.out.foot e).1; omega)) (Nat.le_of_eq (size_setRow _ _ _).symm)).mono (by omega), below_setRow K5.out (by omega) _⟩
      ·
        have hno := fall_yes hok hm hlt
        rw [hns] at hno
        have HE9 := Lib.hid hno
        clear hno
        obtain ⟨⟨q0, q1, q2⟩, _⟩ := blk3 Q4.out
        go_wp2_with (first | (refine wpList_store_row rfl 29 _ _ rfl (w2.heap.size) #[.slice NA nn nc, .int .i64 ns] rfl rfl 29 _ M3.out (by kernel_rfl) rfl (by simp [Value.oneCell']) ?_) | (refine wpList_load_row rfl 29 _ rfl (w2.heap.size) rfl 29 _ (0, 0) _ M4.out Tryz.underlying29 rfl (by kernel_rfl) ?_))
        clear q0 q1 q2
        clear hV3 Q3 R3 M3 K3
        generalize V3.setRow w2.heap.size #[.slice NA nn nc, .int .i64 ns] = S4 at Q4 R4 M4 K4 NM2 zS ⊢
        have hn0 : nn ≤ 1048576 := by have h1 : 0 = nn := NM2.out.len; omega
        have hnz : NA = none → nc = 0 := fun e => by
          rcases NM2.out.form with ⟨_, _, h⟩ | ⟨g, h⟩
          · exact h
          · rw [e] at h; cases h
        have lzb : W0.heap.size ≤ S4.heap.size := by omega
        refine (innWith_any NA nn nc [] ns none 0 0 [] _ ⟨NM2.out.nums, (heldS_nil S4 0).seats⟩ hnz hn0 (Nat.zero_le _) (fun q hq => by cases hq)).mono ?_
        rintro e wc ⟨⟨iM, im, ic, iA, il, iC, ih⟩, rfl, hm1, hm2, HI, hb⟩
        obtain rfl : nn = im := hm1.symm
        obtain rfl : 0 = il := hm2.symm
        have HH := Lib.hid (HI.mono lzb)
        have hzd := hb.size
        clear HI NM2
        have Q5 := Lib.hid (blk_on hb Q4.out)
        have R5 := Lib.hid (blk_on hb R4.out)
        have M5 := Lib.hid (blk_on hb M4.out)
        have K5 := Lib.hid (K4.out.trans (hb.mono K4.out.size))
        clear hb Q4 R4 M4 K4
        have HH2 := HH
        go_wp2_with (refine wpList_store_row rfl 32 _ _ rfl (w.heap.size + 1) #[.slice iM nn ic, .int .i64 ns, .slice iA 0 iC] rfl rfl 32 _ R5.out (by kernel_rfl) rfl (by simp [Value.oneCell']) ?_)
        exact row_ret2 (r := w.heap.size + 1) (cs := #[.slice iM nn ic, .int .i64 ns, .slice iA 0 iC]) rfl rfl rfl (setRow_heap _ _ _ _ _ _ R5.out) Tryz.underlying32 rfl (by kernel_rfl) rfl ⟨(InnH.mk iM nn ic iA 0 iC ih), by rw [HE9.out.2.2.2, HE9.out.1]; rfl, by rw [HE9.out.2.1, HE9.out.2.2.1]; exact (HH2.out.heap (fun t e => setRow_other _ _ _ _ (by have := (HH2.out.foot e).1; omega)) (Nat.le_of_eq (size_setRow _ _ _).symm)).mono (by omega), below_setRow K5.out (by omega) _⟩

end Go.Proofs.YtioogmeghmeelaaGreat.Tx

/-
  Plain facts: how the program asks which seats are right. No conditions.
  What SeatOk of the program answers. No condition.
-/
import Derived.Test.YtioogmeghmeelaaGreatDoorSeat0
import Derived.Test.YtioogmeghmeelaaGreatDoorImpl5a
import Derived.Test.YtioogmeghmeelaaGreatDoorSeat
namespace Go.Proofs.YtioogmeghmeelaaGreatDoor.Tx

/-- As the program asks: its secret, its row behind the answer, its row ahead of it. -/
def pkB (s : SeatV) : Bool := if s.p == 1 then s.f.k.s == 0 else if s.p == 2 then s.f.k.s != 0 else if s.p == 3 then s.f.k.s != 0 else false
def fthB (s : SeatV) : Bool := rowOkB s.f && s.f.k.same (forthK s.f.k.s s.h s.d)
def erlB (s : SeatV) : Bool := if s.st == 1 && s.p == 3 then rowOkB s.e && s.e.k.same (earlyK s.f.k.s s.h) else s.e.isZ
theorem isZ_iff {r : RowV} (h : r.isZ = true) : r = .zero := by
  obtain ⟨⟨u, s, h1, a⟩, n⟩ := r
  simp only [RowV.isZ, Bool.and_eq_true, beq_iff_eq] at h
  obtain ⟨rfl, rfl, rfl, rfl, rfl⟩ := h
  rfl
theorem row_zero_ok : rowOkB .zero = true := by decide
theorem forth_nz {k : KeyV} {h d : Int} (hh : isDrawB h = true) (hd : isDrawB d = true) (hk : k.same (forthK k.s h d) = true) : k.same .zero = false := by
  have e := KeyV.same_iff.1 hk
  cases hb : keyOkB ⟨4, k.s, h, d⟩ with
  | true =>
    rw [forthK, rightK_yes hb] at e
    refine KeyV.same_not fun e0 => ?_
    have h1 := congrArg KeyV.u (e.symm.trans e0)
    simp [KeyV.zero] at h1
  | false =>
    rw [forthK, rightK_no hb] at e
    rw [e] at hb
    simp [keyOkB, KeyV.zero, inB, hh, hd] at hb
theorem pick_sec (p s : Int) : (inB p 1 3 && ((s == 0) == (p == 1))) = (if p == 1 then s == 0 else if p == 2 then s != 0 else if p == 3 then s != 0 else false) := by
  by_cases h1 : p = 1
  · subst h1; cases h : s == 0 <;> simp [inB]
  by_cases h2 : p = 2
  · subst h2; cases h : s == 0 <;> simp [inB, h, bne]
  by_cases h3 : p = 3
  · subst h3; cases h : s == 0 <;> simp [inB, h, bne]
  rw [inB_no (by omega), bne_int h1, bne_int h2, bne_int h3]; rfl
theorem seat_prog (s : SeatV) (n : Nat) : seatOkB s n = ((s.st == 1 || s.st == 2) && (isDrawB s.h && (isDrawB s.d && (pkB s && (fthB s && (erlB s && decide (n ≤ 60))))))) := by
  have hs := pick_sec s.p s.f.k.s
  have hz := fun hh hd hk => forth_nz (k := s.f.k) (h := s.h) (d := s.d) hh hd hk
  have he : s.e.isZ = true → rowOkB s.e = true := fun h => by rw [isZ_iff h]; exact row_zero_ok
  unfold seatOkB fthB erlB
  rw [show pkB s = _ from hs.symm]
  generalize (s.st == 1 || s.st == 2) = a0
  generalize isDrawB s.h = a1 at *
  generalize isDrawB s.d = a2 at *
  generalize inB s.p 1 3 = a3
  generalize rowOkB s.e = a4 at *
  generalize rowOkB s.f = a5
  generalize decide (n ≤ 60) = a6
  generalize KeyV.same s.f.k .zero = a7 at *
  generalize KeyV.same s.f.k (forthK s.f.k.s s.h s.d) = a8 at *
  generalize ((s.f.k.s == 0) == (s.p == 1)) = a9
  generalize KeyV.same s.e.k (earlyK s.f.k.s s.h) = b0
  generalize RowV.isZ s.e = b1 at *
  generalize (s.st == 1 && s.p == 3) = b2
  clear hs
  cases a1 <;> cases a2 <;> simp
  cases a8 <;> simp
  have h7 : a7 = false := hz rfl rfl rfl
  subst h7
  cases b2
  · cases b1
    · simp
    · have h4 : a4 = true := he rfl
      subst h4
      cases a0 <;> cases a3 <;> cases a5 <;> cases a6 <;> cases a9 <;> rfl
  · cases a0 <;> cases a3 <;> cases a4 <;> cases a5 <;> cases a6 <;> cases a9 <;> cases b0 <;> rfl
/-- A new seat that is right was asked for with what goes together. -/
theorem new_goes {h d p s : Int} (e : seatOkB (newSeatRaw h d p s) 0 = true) : goesP p s = true := by
  rw [seat_prog] at e
  simp only [Bool.and_eq_true] at e
  obtain ⟨_, e1, e2, e3, e4, _⟩ := e
  replace e1 : isDrawB h = true := e1
  replace e2 : isDrawB d = true := e2
  have hf : (forthK s h d).same (forthK (forthK s h d).s h d) = true := by
    have h1 := e4
    simp only [fthB, Bool.and_eq_true] at h1
    exact h1.2
  have hnz := forth_nz e1 e2 hf
  cases hb : keyOkB ⟨4, s, h, d⟩ with
  | false => rw [forthK, rightK_no hb, KeyV.same_self] at hnz; cases hnz
  | true =>
    have hs : (forthK s h d).s = s := by rw [forthK, rightK_yes hb]
    have e5 : pkB (newSeatRaw h d p s) = (if p == 1 then s == 0 else if p == 2 then s != 0 else if p == 3 then s != 0 else false) := by
      show (if p == 1 then (forthK s h d).s == 0 else if p == 2 then (forthK s h d).s != 0 else if p == 3 then (forthK s h d).s != 0 else false) = _
      rw [hs]
    rw [e5] at e3
    have hr : inB s 0 100000 = true := by
      simp only [keyOkB, Bool.and_eq_true] at hb
      exact hb.2.1
    have hd' : s ≠ 0 → isDrawB s = true := fun hn => by
      have h1 := inB_true hr
      exact isDraw_iff.2 (by omega)
    rw [goesP]
    by_cases h1 : p = 1
    · rw [beq_int h1] at e3 ⊢; exact e3
    · rw [bne_int h1] at e3 ⊢
      by_cases h2 : p = 2
      · rw [beq_int h2] at e3 ⊢
        simp only [Bool.false_eq_true, if_false, if_true, bne_iff_ne] at e3
        simp [hd' (by simpa using e3)]
      · rw [bne_int h2] at e3 ⊢
        by_cases h3 : p = 3
        · rw [beq_int h3] at e3 ⊢
          simp only [Bool.false_eq_true, if_false, if_true, bne_iff_ne] at e3
          simp [hd' (by simpa using e3)]
        · rw [bne_int h3] at e3
          simp at e3
theorem newB_raw (h d p s : Int) : newSeatB h d p s = seatOkB (newSeatRaw h d p s) 0 := by
  rw [newSeatB]
  cases e : seatOkB (newSeatRaw h d p s) 0 with
  | false => simp
  | true => rw [new_goes e]; rfl

end Go.Proofs.YtioogmeghmeelaaGreatDoor.Tx
namespace Go.Proofs.YtioogmeghmeelaaGreatDoor.Tx
open Go.RowKit

set_option maxRecDepth 100000 in
set_option maxHeartbeats 16000000 in
theorem secret_any (s : SeatV) (A : Option Addr) (n cap : Nat) (w : World) : Calls Tryz.prog 87 #[s.val A n cap] w fun e w' => e = .returned (.int .i64 s.f.k.s) ∧ Below w.heap.size w w' := by
  obtain ⟨st, sh, sd, sp, ⟨⟨eu, es, eh, ea⟩, en⟩, ⟨⟨fu, fs, fh, fa⟩, fn⟩⟩ := s
  have HV : Hid (SeatV.val ⟨st, sh, sd, sp, ⟨⟨eu, es, eh, ea⟩, en⟩, ⟨⟨fu, fs, fh, fa⟩, fn⟩⟩ A n cap = .agg #[.int .i64 st, .int .i64 sh, .int .i64 sd, .int .i64 sp, .int .i64 eu, .int .i64 es, .int .i64 eh, .int .i64 ea, .int .i64 en, .int .i64 fu, .int .i64 fs, .int .i64 fh, .int .i64 fa, .int .i64 fn, .slice A n cap]) := rfl
  rw [HV.out]
  dsimp only
  clear HV
  obtain ⟨W0, hW0⟩ : ∃ W, w.alloc (.cells #[.int .i64 st, .int .i64 sh, .int .i64 sd, .int .i64 sp, .int .i64 eu, .int .i64 es, .int .i64 eh, .int .i64 ea, .int .i64 en, .int .i64 fu, .int .i64 fs, .int .i64 fh, .int .i64 fa, .int .i64 fn, .slice A n cap] 57) = W := ⟨_, rfl⟩
  have K0 : Hid (Below w.heap.size w W0) := by rw [← hW0]; exact (Below.refl _ w).alloc (Nat.le_refl _) _
  have S0 : Hid (W0.heap[w.heap.size]? = some (.cells #[.int .i64 st, .int .i64 sh, .int .i64 sd, .int .i64 sp, .int .i64 eu, .int .i64 es, .int .i64 eh, .int .i64 ea, .int .i64 en, .int .i64 fu, .int .i64 fs, .int .i64 fh, .int .i64 fa, .int .i64 fn, .slice A n cap] 57)) := by rw [← hW0]; exact heap1 w _
  go_enter Tryz.func87, Tryz.ntmps87
  obtain ⟨⟨a0, a1, a2, a3, a4, a5, a6, a7, a8, a9, a10, a11, a12, a13, a14⟩, _⟩ := blk15 S0.out
  go_wp2
  go_ret
  exact ⟨rfl, K0.out⟩

set_option maxRecDepth 100000 in
set_option maxHeartbeats 16000000 in
theorem rightState_any (s : SeatV) (A : Option Addr) (n cap : Nat) (w : World) : Calls Tryz.prog 67 #[s.val A n cap] w fun e w' => e = .returned (.bool (s.st == 1 || s.st == 2)) ∧ Below w.heap.size w w' := by
  obtain ⟨st, sh, sd, sp, ⟨⟨eu, es, eh, ea⟩, en⟩, ⟨⟨fu, fs, fh, fa⟩, fn⟩⟩ := s
  have HV : Hid (SeatV.val ⟨st, sh, sd, sp, ⟨⟨eu, es, eh, ea⟩, en⟩, ⟨⟨fu, fs, fh, fa⟩, fn⟩⟩ A n cap = .agg #[.int .i64 st, .int .i64 sh, .int .i64 sd, .int .i64 sp, .int .i64 eu, .int .i64 es, .int .i64 eh, .int .i64 ea, .int .i64 en, .int .i64 fu, .int .i64 fs, .int .i64 fh, .int .i64 fa, .int .i64 fn, .slice A n cap]) := rfl
  rw [HV.out]
  dsimp only
  clear HV
  obtain ⟨W0, hW0⟩ : ∃ W, w.alloc (.cells #[.int .i64 st, .int .i64 sh, .int .i64 sd, .int .i64 sp, .int .i64 eu, .int .i64 es, .int .i64 eh, .int .i64 ea, .int .i64 en, .int .i64 fu, .int .i64 fs, .int .i64 fh, .int .i64 fa, .int .i64 fn, .slice A n cap] 57) = W := ⟨_, rfl⟩
  have K0 : Hid (Below w.heap.size w W0) := by rw [← hW0]; exact (Below.refl _ w).alloc (Nat.le_refl _) _
  have S0 : Hid (W0.heap[w.heap.size]? = some (.cells #[.int .i64 st, .int .i64 sh, .int .i64 sd, .int .i64 sp, .int .i64 eu, .int .i64 es, .int .i64 eh, .int .i64 ea, .int .i64 en, .int .i64 fu, .int .i64 fs, .int .i64 fh, .int .i64 fa, .int .i64 fn, .slice A n cap] 57)) := by rw [← hW0]; exact heap1 w _
  go_enter Tryz.func67, Tryz.ntmps67
  obtain ⟨⟨a0, a1, a2, a3, a4, a5, a6, a7, a8, a9, a10, a11, a12, a13, a14⟩, _⟩ := blk15 S0.out
  cases h1 : st == 1
  ·
    go_wp2
    go_ret
    exact ⟨rfl, K0.out⟩
  ·
    go_wp2
    go_ret
    exact ⟨rfl, K0.out⟩

set_option maxRecDepth 100000 in
set_option maxHeartbeats 16000000 in
theorem rightSecret_any (s : SeatV) (A : Option Addr) (n cap : Nat) (w : World) : Calls Tryz.prog 69 #[s.val A n cap] w fun e w' => e = .returned (.bool (pkB s)) ∧ Below w.heap.size w w' := by
  obtain ⟨st, sh, sd, sp, ⟨⟨eu, es, eh, ea⟩, en⟩, ⟨⟨fu, fs, fh, fa⟩, fn⟩⟩ := s
  have HV : Hid (SeatV.val ⟨st, sh, sd, sp, ⟨⟨eu, es, eh, ea⟩, en⟩, ⟨⟨fu, fs, fh, fa⟩, fn⟩⟩ A n cap = .agg #[.int .i64 st, .int .i64 sh, .int .i64 sd, .int .i64 sp, .int .i64 eu, .int .i64 es, .int .i64 eh, .int .i64 ea, .int .i64 en, .int .i64 fu, .int .i64 fs, .int .i64 fh, .int .i64 fa, .int .i64 fn, .slice A n cap]) := rfl
  rw [HV.out]
  have cX : Hid (∀ w' : World, Calls Tryz.prog 87 #[.agg #[.int .i64 st, .int .i64 sh, .int .i64 sd, .int .i64 sp, .int .i64 eu, .int .i64 es, .int .i64 eh, .int .i64 ea, .int .i64 en, .int .i64 fu, .int .i64 fs, .int .i64 fh, .int .i64 fa, .int .i64 fn, .slice A n cap]] w' fun e w'' => e = .returned (.int .i64 fs) ∧ Below w'.heap.size w' w'') := fun w' => by exact secret_any ⟨st, sh, sd, sp, ⟨⟨eu, es, eh, ea⟩, en⟩, ⟨⟨fu, fs, fh, fa⟩, fn⟩⟩ A n cap w'
  clear HV
  unfold pkB
  dsimp only
  obtain ⟨W0, hW0⟩ : ∃ W, w.alloc (.cells #[.int .i64 st, .int .i64 sh, .int .i64 sd, .int .i64 sp, .int .i64 eu, .int .i64 es, .int .i64 eh, .int .i64 ea, .int .i64 en, .int .i64 fu, .int .i64 fs, .int .i64 fh, .int .i64 fa, .int .i64 fn, .slice A n cap] 57) = W := ⟨_, rfl⟩
  have K0 : Hid (Below w.heap.size w W0) := by rw [← hW0]; exact (Below.refl _ w).alloc (Nat.le_refl _) _
  have S0 : Hid (W0.heap[w.heap.size]? = some (.cells #[.int .i64 st, .int .i64 sh, .int .i64 sd, .int .i64 sp, .int .i64 eu, .int .i64 es, .int .i64 eh, .int .i64 ea, .int .i64 en, .int .i64 fu, .int .i64 fs, .int .i64 fh, .int .i64 fa, .int .i64 fn, .slice A n cap] 57)) := by rw [← hW0]; exact heap1 w _
  go_enter Tryz.func69, Tryz.ntmps69
  obtain ⟨⟨a0, a1, a2, a3, a4, a5, a6, a7, a8, a9, a10, a11, a12, a13, a14⟩, _⟩ := blk15 S0.out
  by_cases h1 : sp = 1
  ·
    have h1q : (sp == 1) = true := beq_int h1
    rw [h1q]
    clear h1
    go_wp2_with (refine wpList_load_row rfl 57 _ rfl (w.heap.size) rfl 57 _ (0, 0) _ S0.out Tryz.underlying57 rfl (by kernel_rfl) ?_)
    refine (cX.out _).mono ?_
    rintro e w1 ⟨rfl, hb⟩
    have S1 := Lib.hid (blk_on hb S0.out)
    have K1 := Lib.hid (K0.out.trans (hb.mono K0.out.size))
    clear hb S0 K0
    go_wp2
    go_ret
    exact ⟨rfl, K1.out⟩
  ·
    have h1q : (sp == 1) = false := bne_int h1
    rw [h1q]
    clear h1
    by_cases h2 : sp = 2
    ·
      have h2q : (sp == 2) = true := beq_int h2
      rw [h2q]
      clear h2
      go_wp2_with (refine wpList_load_row rfl 57 _ rfl (w.heap.size) rfl 57 _ (0, 0) _ S0.out Tryz.underlying57 rfl (by kernel_rfl) ?_)
      refine (cX.out _).mono ?_
      rintro e w1 ⟨rfl, hb⟩
      have S1 := Lib.hid (blk_on hb S0.out)
      have K1 := Lib.hid (K0.out.trans (hb.mono K0.out.size))
      clear hb S0 K0
      go_wp2
      go_ret
      exact ⟨rfl, K1.out⟩
    ·
      have h2q : (sp == 2) = false := bne_int h2
      rw [h2q]
      clear h2
      by_cases h3 : sp = 3
      ·
        have h3q : (sp == 3) = true := beq_int h3
        rw [h3q]
        clear h3
        go_wp2_with (refine wpList_load_row rfl 57 _ rfl (w.heap.size) rfl 57 _ (0, 0) _ S0.out Tryz.underlying57 rfl (by kernel_rfl) ?_)
        refine (cX.out _).mono ?_
        rintro e w1 ⟨rfl, hb⟩
        have S1 := Lib.hid (blk_on hb S0.out)
        have K1 := Lib.hid (K0.out.trans (hb.mono K0.out.size))
        clear hb S0 K0
        go_wp2
        go_ret
        exact ⟨rfl, K1.out⟩
      ·
        have h3q : (sp == 3) = false := bne_int h3
        rw [h3q]
        clear h3
        go_wp2
        go_ret
        exact ⟨rfl, K0.out⟩

set_option maxRecDepth 100000 in
set_option maxHeartbeats 16000000 in
theorem rightForth_any (s : SeatV) (A : Option Addr) (n cap : Nat) (w : World) : Calls Tryz.prog 70 #[s.val A n cap] w fun e w' => e = .returned (.bool (fthB s)) ∧ Below w.heap.size w w' := by
  obtain ⟨st, sh, sd, sp, ⟨⟨eu, es, eh, ea⟩, en⟩, ⟨⟨fu, fs, fh, fa⟩, fn⟩⟩ := s
  have HV : Hid (SeatV.val ⟨st, sh, sd, sp, ⟨⟨eu, es, eh, ea⟩, en⟩, ⟨⟨fu, fs, fh, fa⟩, fn⟩⟩ A n cap = .agg #[.int .i64 st, .int .i64 sh, .int .i64 sd, .int .i64 sp, .int .i64 eu, .int .i64 es, .int .i64 eh, .int .i64 ea, .int .i64 en, .int .i64 fu, .int .i64 fs, .int .i64 fh, .int .i64 fa, .int .i64 fn, .slice A n cap]) := rfl
  rw [HV.out]
  have cX : Hid (∀ w' : World, Calls Tryz.prog 87 #[.agg #[.int .i64 st, .int .i64 sh, .int .i64 sd, .int .i64 sp, .int .i64 eu, .int .i64 es, .int .i64 eh, .int .i64 ea, .int .i64 en, .int .i64 fu, .int .i64 fs, .int .i64 fh, .int .i64 fa, .int .i64 fn, .slice A n cap]] w' fun e w'' => e = .returned (.int .i64 fs) ∧ Below w'.heap.size w' w'') := fun w' => by exact secret_any ⟨st, sh, sd, sp, ⟨⟨eu, es, eh, ea⟩, en⟩, ⟨⟨fu, fs, fh, fa⟩, fn⟩⟩ A n cap w'
  obtain ⟨⟨ku, ks, kh, ka⟩, hk⟩ : ∃ x, forthK fs sh sd = x := ⟨_, rfl⟩
  have cK' := fun w' => ForthKey_impl fs sh sd w'
  have e1 : rightK ⟨4, fs, sh, sd⟩ = forthK fs sh sd := rfl
  rw [e1, hk] at cK'
  have cK : Hid (∀ w' : World, Calls Tryz.prog 89 #[.int .i64 fs, .int .i64 sh, .int .i64 sd] w' fun e w'' => e = .returned (.agg #[.int .i64 ku, .int .i64 ks, .int .i64 kh, .int .i64 ka]) ∧ Below w'.heap.size w' w'') := fun w' => cK' w'
  have cR : Hid (∀ w' : World, Calls Tryz.prog 88 #[.agg #[.int .i64 fu, .int .i64 fs, .int .i64 fh, .int .i64 fa, .int .i64 fn]] w' fun e w'' => e = .returned (.bool (rowOkB ⟨⟨fu, fs, fh, fa⟩, fn⟩)) ∧ Below w'.heap.size w' w'') := fun w' => by exact RowOk_impl ⟨⟨fu, fs, fh, fa⟩, fn⟩ w'
  have HR : fthB ⟨st, sh, sd, sp, ⟨⟨eu, es, eh, ea⟩, en⟩, ⟨⟨fu, fs, fh, fa⟩, fn⟩⟩ = (rowOkB ⟨⟨fu, fs, fh, fa⟩, fn⟩ && KeyV.same ⟨fu, fs, fh, fa⟩ (forthK fs sh sd)) := rfl
  rw [hk] at HR
  rw [HR]
  clear HV HR cK' e1 hk
  generalize rowOkB ⟨⟨fu, fs, fh, fa⟩, fn⟩ = rr at cR ⊢
  obtain ⟨W0, hW0⟩ : ∃ W, w.alloc (.cells #[.int .i64 st, .int .i64 sh, .int .i64 sd, .int .i64 sp, .int .i64 eu, .int .i64 es, .int .i64 eh, .int .i64 ea, .int .i64 en, .int .i64 fu, .int .i64 fs, .int .i64 fh, .int .i64 fa, .int .i64 fn, .slice A n cap] 57) = W := ⟨_, rfl⟩
  have K0 : Hid (Below w.heap.size w W0) := by rw [← hW0]; exact (Below.refl _ w).alloc (Nat.le_refl _) _
  have S0 : Hid (W0.heap[w.heap.size]? = some (.cells #[.int .i64 st, .int .i64 sh, .int .i64 sd, .int .i64 sp, .int .i64 eu, .int .i64 es, .int .i64 eh, .int .i64 ea, .int .i64 en, .int .i64 fu, .int .i64 fs, .int .i64 fh, .int .i64 fa, .int .i64 fn, .slice A n cap] 57)) := by rw [← hW0]; exact heap1 w _
  go_enter Tryz.func70, Tryz.ntmps70
  go_wp2_with fail
  clear hW0
  cases rr with
  | false =>
    refine wp_region_own (W := W0) [] (fun _ => True) stays_true trivial [0, 0, 1, 0, 0, 0, 0, 0, 1, 0, 0, 0, 0, 1, 0, 0, 0] (by kernel_rfl) (by kernel_rfl) (by kernel_rfl) ?_
    have fS : ∀ q : In (plainEnv W0 []), _ := fun q => (blk15 (q.block S0.out (by simp))).1
    refine wpO_quiet 2 rfl (by kernel_rfl) ?_
    simp only [List.take, List.drop]
    repeat (go_big_quiet_step (fail))
    refine wpQuiet_nil ?_
    refine wpO_call (f := 88) (args := #[.agg #[.int .i64 fu, .int .i64 fs, .int .i64 fh, .int .i64 fa, .int .i64 fn]]) (.bool false) rfl (fun w' => by simp [go_sem]) (fun w' hC _ => cR.out w') ?_
    simp only [Act.put, List.setIfInBounds_toArray, List.set_cons_succ, List.set_cons_zero]
    refine wpO_quiet 5 rfl (by kernel_rfl) ?_
    simp only [List.take, List.drop]
    repeat (go_big_quiet_step (fail))
    refine wpQuiet_nil ?_
    refine wpO_skip rfl ?_
    simp only [Act.put, List.setIfInBounds_toArray, List.set_cons_succ, List.set_cons_zero]
    refine wpO_quiet 4 rfl (by kernel_rfl) ?_
    simp only [List.take, List.drop]
    repeat (go_big_quiet_step (fail))
    refine wpQuiet_nil ?_
    refine wpO_skip rfl ?_
    simp only [Act.put, List.setIfInBounds_toArray, List.set_cons_succ, List.set_cons_zero]
    refine wpO_quiet 3 rfl (by kernel_rfl) ?_
    simp only [List.take, List.drop]
    repeat (go_big_quiet_step (fail))
    refine wpQuiet_nil ?_
    refine wpO_nil ?_
    rintro w1 hb' _
    have hb := kept_below hb'
    have S1 := Lib.hid (blk_on hb S0.out)
    have K1 := Lib.hid (K0.out.trans (hb.mono K0.out.size))
    clear fS hb hb' S0 K0
    go_wp2
    go_ret
    exact ⟨rfl, K1.out⟩
  | true =>
    have hqe := eq_agg fu fs fh fa ku ks kh ka
    refine wp_region_own (W := W0) [] (fun _ => True) stays_true trivial [0, 0, 1, 0, 0, 0, 0, 0, 1, 0, 0, 0, 0, 1, 0, 0, 0] (by kernel_rfl) (by kernel_rfl) (by kernel_rfl) ?_
    have fS : ∀ q : In (plainEnv W0 []), _ := fun q => (blk15 (q.block S0.out (by simp))).1
    have rS : Hid (∀ q : In (plainEnv W0 []), q.w.heap[w.heap.size]? = some (.cells #[.int .i64 st, .int .i64 sh, .int .i64 sd, .int .i64 sp, .int .i64 eu, .int .i64 es, .int .i64 eh, .int .i64 ea, .int .i64 en, .int .i64 fu, .int .i64 fs, .int .i64 fh, .int .i64 fa, .int .i64 fn, .slice A n cap] 57)) := fun q => q.block S0.out (by simp)
    refine wpO_quiet 2 rfl (by kernel_rfl) ?_
    simp only [List.take, List.drop]
    repeat (go_big_quiet_step (fail))
    refine wpQuiet_nil ?_
    refine wpO_call (f := 88) (args := #[.agg #[.int .i64 fu, .int .i64 fs, .int .i64 fh, .int .i64 fa, .int .i64 fn]]) (.bool true) rfl (fun w' => by simp [go_sem]) (fun w' hC _ => cR.out w') ?_
    simp only [Act.put, List.setIfInBounds_toArray, List.set_cons_succ, List.set_cons_zero]
    refine wpO_quiet 4 rfl (by kernel_rfl) ?_
    simp only [List.take, List.drop]
    repeat (go_big_quiet_step (fail))
    refine wpQuiet_nil ?_
    refine wpO_load_row rfl 57 _ rfl (w.heap.size) rfl 57 _ (0, 0) _ rS.out Tryz.underlying57 rfl (by kernel_rfl) ?_
    simp only [Act.put, List.setIfInBounds_toArray, List.set_cons_succ, List.set_cons_zero]
    refine wpO_call (f := 87) (args := #[.agg #[.int .i64 st, .int .i64 sh, .int .i64 sd, .int .i64 sp, .int .i64 eu, .int .i64 es, .int .i64 eh, .int .i64 ea, .int .i64 en, .int .i64 fu, .int .i64 fs, .int .i64 fh, .int .i64 fa, .int .i64 fn, .slice A n cap]]) (.int .i64 fs) rfl (fun w' => by simp [go_sem]) (fun w' hC _ => cX.out w') ?_
    simp only [Act.put, List.setIfInBounds_toArray, List.set_cons_succ, List.set_cons_zero]
    refine wpO_quiet 4 rfl (by kernel_rfl) ?_
    simp only [List.take, List.drop]
    repeat (go_big_quiet_step (fail))
    refine wpQuiet_nil ?_
    refine wpO_call (f := 89) (args := #[.int .i64 fs, .int .i64 sh, .int .i64 sd]) (.agg #[.int .i64 ku, .int .i64 ks, .int .i64 kh, .int .i64 ka]) rfl (fun w' => by simp [go_sem]) (fun w' hC _ => cK.out w') ?_
    simp only [Act.put, List.setIfInBounds_toArray, List.set_cons_succ, List.set_cons_zero]
    refine wpO_quiet 3 rfl (by kernel_rfl) ?_
    simp only [List.take, List.drop]
    repeat (go_big_quiet_step (fail))
    refine wpQuiet_nil ?_
    refine wpO_nil ?_
    rintro w1 hb' _
    have hb := kept_below hb'
    have S1 := Lib.hid (blk_on hb S0.out)
    have K1 := Lib.hid (K0.out.trans (hb.mono K0.out.size))
    clear fS rS hb hb' S0 K0
    go_wp2
    go_ret
    exact ⟨rfl, K1.out⟩

set_option maxRecDepth 100000 in
set_option maxHeartbeats 16000000 in
theorem rightEarly_any (s : SeatV) (A : Option Addr) (n cap : Nat) (w : World) : Calls Tryz.prog 71 #[s.val A n cap] w fun e w' => e = .returned (.bool (erlB s)) ∧ Below w.heap.size w w' := by
  obtain ⟨st, sh, sd, sp, ⟨⟨eu, es, eh, ea⟩, en⟩, ⟨⟨fu, fs, fh, fa⟩, fn⟩⟩ := s
  have HV : Hid (SeatV.val ⟨st, sh, sd, sp, ⟨⟨eu, es, eh, ea⟩, en⟩, ⟨⟨fu, fs, fh, fa⟩, fn⟩⟩ A n cap = .agg #[.int .i64 st, .int .i64 sh, .int .i64 sd, .int .i64 sp, .int .i64 eu, .int .i64 es, .int .i64 eh, .int .i64 ea, .int .i64 en, .int .i64 fu, .int .i64 fs, .int .i64 fh, .int .i64 fa, .int .i64 fn, .slice A n cap]) := rfl
  rw [HV.out]
  have cX : Hid (∀ w' : World, Calls Tryz.prog 87 #[.agg #[.int .i64 st, .int .i64 sh, .int .i64 sd, .int .i64 sp, .int .i64 eu, .int .i64 es, .int .i64 eh, .int .i64 ea, .int .i64 en, .int .i64 fu, .int .i64 fs, .int .i64 fh, .int .i64 fa, .int .i64 fn, .slice A n cap]] w' fun e w'' => e = .returned (.int .i64 fs) ∧ Below w'.heap.size w' w'') := fun w' => by exact secret_any ⟨st, sh, sd, sp, ⟨⟨eu, es, eh, ea⟩, en⟩, ⟨⟨fu, fs, fh, fa⟩, fn⟩⟩ A n cap w'
  obtain ⟨⟨ku, ks, kh, ka⟩, hk⟩ : ∃ x, earlyK fs sh = x := ⟨_, rfl⟩
  have cK' := fun w' => EarlyKey_impl fs sh w'
  have e1 : rightK ⟨1, fs, sh, 0⟩ = earlyK fs sh := rfl
  rw [e1, hk] at cK'
  have cK : Hid (∀ w' : World, Calls Tryz.prog 90 #[.int .i64 fs, .int .i64 sh] w' fun e w'' => e = .returned (.agg #[.int .i64 ku, .int .i64 ks, .int .i64 kh, .int .i64 ka]) ∧ Below w'.heap.size w' w'') := fun w' => cK' w'
  have cR : Hid (∀ w' : World, Calls Tryz.prog 88 #[.agg #[.int .i64 eu, .int .i64 es, .int .i64 eh, .int .i64 ea, .int .i64 en]] w' fun e w'' => e = .returned (.bool (rowOkB ⟨⟨eu, es, eh, ea⟩, en⟩)) ∧ Below w'.heap.size w' w'') := fun w' => by exact RowOk_impl ⟨⟨eu, es, eh, ea⟩, en⟩ w'
  have HR : erlB ⟨st, sh, sd, sp, ⟨⟨eu, es, eh, ea⟩, en⟩, ⟨⟨fu, fs, fh, fa⟩, fn⟩⟩ = if st == 1 && sp == 3 then (rowOkB ⟨⟨eu, es, eh, ea⟩, en⟩ && KeyV.same ⟨eu, es, eh, ea⟩ (earlyK fs sh)) else RowV.isZ ⟨⟨eu, es, eh, ea⟩, en⟩ := rfl
  rw [hk] at HR
  rw [HR]
  clear HV HR cK' e1 hk
  generalize rowOkB ⟨⟨eu, es, eh, ea⟩, en⟩ = rr at cR ⊢
  obtain ⟨W0, hW0⟩ : ∃ W, w.alloc (.cells #[.int .i64 st, .int .i64 sh, .int .i64 sd, .int .i64 sp, .int .i64 eu, .int .i64 es, .int .i64 eh, .int .i64 ea, .int .i64 en, .int .i64 fu, .int .i64 fs, .int .i64 fh, .int .i64 fa, .int .i64 fn, .slice A n cap] 57) = W := ⟨_, rfl⟩
  have K0 : Hid (Below w.heap.size w W0) := by rw [← hW0]; exact (Below.refl _ w).alloc (Nat.le_refl _) _
  have S0 : Hid (W0.heap[w.heap.size]? = some (.cells #[.int .i64 st, .int .i64 sh, .int .i64 sd, .int .i64 sp, .int .i64 eu, .int .i64 es, .int .i64 eh, .int .i64 ea, .int .i64 en, .int .i64 fu, .int .i64 fs, .int .i64 fh, .int .i64 fa, .int .i64 fn, .slice A n cap] 57)) := by rw [← hW0]; exact heap1 w _
  go_enter Tryz.func71, Tryz.ntmps71
  obtain ⟨⟨a0, a1, a2, a3, a4, a5, a6, a7, a8, a9, a10, a11, a12, a13, a14⟩, _⟩ := blk15 S0.out
  by_cases hs : st = 1
  ·
    have hsq : (st == 1) = true := beq_int hs
    rw [hsq]
    clear hs
    by_cases hp : sp = 3
    ·
      have hpq : (sp == 3) = true := beq_int hp
      rw [hpq]
      clear hp
      simp only [Bool.and_true, if_true]
      go_wp2_with fail
      clear a0 a1 a2 a3 a4 a5 a6 a7 a8 a9 a10 a11 a12 a13 a14
      clear hW0
      cases rr with
      | false =>
        refine wp_region_own (W := W0) [] (fun _ => True) stays_true trivial [0, 0, 1, 0, 0, 0, 0, 0, 1, 0, 0, 1, 0, 0, 0] (by kernel_rfl) (by kernel_rfl) (by kernel_rfl) ?_
        have fS : ∀ q : In (plainEnv W0 []), _ := fun q => (blk15 (q.block S0.out (by simp))).1
        refine wpO_quiet 2 rfl (by kernel_rfl) ?_
        simp only [List.take, List.drop]
        repeat (go_big_quiet_step (fail))
        refine wpQuiet_nil ?_
        refine wpO_call (f := 88) (args := #[.agg #[.int .i64 eu, .int .i64 es, .int .i64 eh, .int .i64 ea, .int .i64 en]]) (.bool false) rfl (fun w' => by simp [go_sem]) (fun w' hC _ => cR.out w') ?_
        simp only [Act.put, List.setIfInBounds_toArray, List.set_cons_succ, List.set_cons_zero]
        refine wpO_quiet 5 rfl (by kernel_rfl) ?_
        simp only [List.take, List.drop]
        repeat (go_big_quiet_step (fail))
        refine wpQuiet_nil ?_
        refine wpO_skip rfl ?_
        simp only [Act.put, List.setIfInBounds_toArray, List.set_cons_succ, List.set_cons_zero]
        refine wpO_quiet 2 rfl (by kernel_rfl) ?_
        simp only [List.take, List.drop]
        repeat (go_big_quiet_step (fail))
        refine wpQuiet_nil ?_
        refine wpO_skip rfl ?_
        simp only [Act.put, List.setIfInBounds_toArray, List.set_cons_succ, List.set_cons_zero]
        refine wpO_quiet 3 rfl (by kernel_rfl) ?_
        simp only [List.take, List.drop]
        repeat (go_big_quiet_step (fail))
        refine wpQuiet_nil ?_
        refine wpO_nil ?_
        rintro w1 hb' _
        have hb := kept_below hb'
        have S1 := Lib.hid (blk_on hb S0.out)
        have K1 := Lib.hid (K0.out.trans (hb.mono K0.out.size))
        clear fS hb hb' S0 K0
        go_wp2
        go_ret
        exact ⟨rfl, K1.out⟩
      | true =>
        have hqe := eq_agg eu es eh ea ku ks kh ka
        refine wp_region_own (W := W0) [] (fun _ => True) stays_true trivial [0, 0, 1, 0, 0, 0, 0, 0, 1, 0, 0, 1, 0, 0, 0] (by kernel_rfl) (by kernel_rfl) (by kernel_rfl) ?_
        have fS : ∀ q : In (plainEnv W0 []), _ := fun q => (blk15 (q.block S0.out (by simp))).1
        have rS : Hid (∀ q : In (plainEnv W0 []), q.w.heap[w.heap.size]? = some (.cells #[.int .i64 st, .int .i64 sh, .int .i64 sd, .int .i64 sp, .int .i64 eu, .int .i64 es, .int .i64 eh, .int .i64 ea, .int .i64 en, .int .i64 fu, .int .i64 fs, .int .i64 fh, .int .i64 fa, .int .i64 fn, .slice A n cap] 57)) := fun q => q.block S0.out (by simp)
        refine wpO_quiet 2 rfl (by kernel_rfl) ?_
        simp only [List.take, List.drop]
        repeat (go_big_quiet_step (fail))
        refine wpQuiet_nil ?_
        refine wpO_call (f := 88) (args := #[.agg #[.int .i64 eu, .int .i64 es, .int .i64 eh, .int .i64 ea, .int .i64 en]]) (.bool true) rfl (fun w' => by simp [go_sem]) (fun w' hC _ => cR.out w') ?_
        simp only [Act.put, List.setIfInBounds_toArray, List.set_cons_succ, List.set_cons_zero]
        refine wpO_quiet 4 rfl (by kernel_rfl) ?_
        simp only [List.take, List.drop]
        repeat (go_big_quiet_step (fail))
        refine wpQuiet_nil ?_
        refine wpO_load_row rfl 57 _ rfl (w.heap.size) rfl 57 _ (0, 0) _ rS.out Tryz.underlying57 rfl (by kernel_rfl) ?_
        simp only [Act.put, List.setIfInBounds_toArray, List.set_cons_succ, List.set_cons_zero]
        refine wpO_call (f := 87) (args := #[.agg #[.int .i64 st, .int .i64 sh, .int .i64 sd, .int .i64 sp, .int .i64 eu, .int .i64 es, .int .i64 eh, .int .i64 ea, .int .i64 en, .int .i64 fu, .int .i64 fs, .int .i64 fh, .int .i64 fa, .int .i64 fn, .slice A n cap]]) (.int .i64 fs) rfl (fun w' => by simp [go_sem]) (fun w' hC _ => cX.out w') ?_
        simp only [Act.put, List.setIfInBounds_toArray, List.set_cons_succ, List.set_cons_zero]
        refine wpO_quiet 2 rfl (by kernel_rfl) ?_
        simp only [List.take, List.drop]
        repeat (go_big_quiet_step (fail))
        refine wpQuiet_nil ?_
        refine wpO_call (f := 90) (args := #[.int .i64 fs, .int .i64 sh]) (.agg #[.int .i64 ku, .int .i64 ks, .int .i64 kh, .int .i64 ka]) rfl (fun w' => by simp [go_sem]) (fun w' hC _ => cK.out w') ?_
        simp only [Act.put, List.setIfInBounds_toArray, List.set_cons_succ, List.set_cons_zero]
        refine wpO_quiet 3 rfl (by kernel_rfl) ?_
        simp only [List.take, List.drop]
        repeat (go_big_quiet_step (fail))
        refine wpQuiet_nil ?_
        refine wpO_nil ?_
        rintro w1 hb' _
        have hb := kept_below hb'
        have S1 := Lib.hid (blk_on hb S0.out)
        have K1 := Lib.hid (K0.out.trans (hb.mono K0.out.size))
        clear fS rS hb hb' S0 K0
        go_wp2
        go_ret
        exact ⟨rfl, K1.out⟩
    ·
      have hpq : (sp == 3) = false := bne_int hp
      rw [hpq]
      clear hp
      simp only [Bool.and_false, Bool.false_eq_true, if_false]
      have hz := eq_row_zero eu es eh ea en
      go_wp2
      go_ret
      exact ⟨rfl, K0.out⟩
  ·
    have hsq : (st == 1) = false := bne_int hs
    rw [hsq]
    clear hs
    simp only [Bool.false_and, Bool.false_eq_true, if_false]
    have hz := eq_row_zero eu es eh ea en
    go_wp2
    go_ret
    exact ⟨rfl, K0.out⟩

set_option maxRecDepth 100000 in
set_option maxHeartbeats 16000000 in
theorem SeatOk_impl0 (s : SeatV) (A : Option Addr) (n cap : Nat) (w : World) : Calls Tryz.prog 43 #[s.val A n cap] w fun e w' => e = .returned (.bool (seatOkB s n)) ∧ Below w.heap.size w w' := by
  obtain ⟨st, sh, sd, sp, ⟨⟨eu, es, eh, ea⟩, en⟩, ⟨⟨fu, fs, fh, fa⟩, fn⟩⟩ := s
  have HV : Hid (SeatV.val ⟨st, sh, sd, sp, ⟨⟨eu, es, eh, ea⟩, en⟩, ⟨⟨fu, fs, fh, fa⟩, fn⟩⟩ A n cap = .agg #[.int .i64 st, .int .i64 sh, .int .i64 sd, .int .i64 sp, .int .i64 eu, .int .i64 es, .int .i64 eh, .int .i64 ea, .int .i64 en, .int .i64 fu, .int .i64 fs, .int .i64 fh, .int .i64 fa, .int .i64 fn, .slice A n cap]) := rfl
  rw [HV.out]
  rw [seat_prog]
  have c0 : Hid (∀ w' : World, Calls Tryz.prog 67 #[.agg #[.int .i64 st, .int .i64 sh, .int .i64 sd, .int .i64 sp, .int .i64 eu, .int .i64 es, .int .i64 eh, .int .i64 ea, .int .i64 en, .int .i64 fu, .int .i64 fs, .int .i64 fh, .int .i64 fa, .int .i64 fn, .slice A n cap]] w' fun e w'' => e = .returned (.bool (st == 1 || st == 2)) ∧ Below w'.heap.size w' w'') := fun w' => by exact rightState_any ⟨st, sh, sd, sp, ⟨⟨eu, es, eh, ea⟩, en⟩, ⟨⟨fu, fs, fh, fa⟩, fn⟩⟩ A n cap w'
  have c1 : Hid (∀ w' : World, Calls Tryz.prog 68 #[.int .i64 sh] w' fun e w'' => e = .returned (.bool (isDrawB sh)) ∧ Below w'.heap.size w' w'') := fun w' => by exact IsDraw_impl sh w'
  have c2 : Hid (∀ w' : World, Calls Tryz.prog 68 #[.int .i64 sd] w' fun e w'' => e = .returned (.bool (isDrawB sd)) ∧ Below w'.heap.size w' w'') := fun w' => by exact IsDraw_impl sd w'
  have c3 : Hid (∀ w' : World, Calls Tryz.prog 69 #[.agg #[.int .i64 st, .int .i64 sh, .int .i64 sd, .int .i64 sp, .int .i64 eu, .int .i64 es, .int .i64 eh, .int .i64 ea, .int .i64 en, .int .i64 fu, .int .i64 fs, .int .i64 fh, .int .i64 fa, .int .i64 fn, .slice A n cap]] w' fun e w'' => e = .returned (.bool (pkB ⟨st, sh, sd, sp, ⟨⟨eu, es, eh, ea⟩, en⟩, ⟨⟨fu, fs, fh, fa⟩, fn⟩⟩)) ∧ Below w'.heap.size w' w'') := fun w' => by exact rightSecret_any ⟨st, sh, sd, sp, ⟨⟨eu, es, eh, ea⟩, en⟩, ⟨⟨fu, fs, fh, fa⟩, fn⟩⟩ A n cap w'
  have c4 : Hid (∀ w' : World, Calls Tryz.prog 70 #[.agg #[.int .i64 st, .int .i64 sh, .int .i64 sd, .int .i64 sp, .int .i64 eu, .int .i64 es, .int .i64 eh, .int .i64 ea, .int .i64 en, .int .i64 fu, .int .i64 fs, .int .i64 fh, .int .i64 fa, .int .i64 fn, .slice A n cap]] w' fun e w'' => e = .returned (.bool (fthB ⟨st, sh, sd, sp, ⟨⟨eu, es, eh, ea⟩, en⟩, ⟨⟨fu, fs, fh, fa⟩, fn⟩⟩)) ∧ Below w'.heap.size w' w'') := fun w' => by exact rightForth_any ⟨st, sh, sd, sp, ⟨⟨eu, es, eh, ea⟩, en⟩, ⟨⟨fu, fs, fh, fa⟩, fn⟩⟩ A n cap w'
  have c5 : Hid (∀ w' : World, Calls Tryz.prog 71 #[.agg #[.int .i64 st, .int .i64 sh, .int .i64 sd, .int .i64 sp, .int .i64 eu, .int .i64 es, .int .i64 eh, .int .i64 ea, .int .i64 en, .int .i64 fu, .int .i64 fs, .int .i64 fh, .int .i64 fa, .int .i64 fn, .slice A n cap]] w' fun e w'' => e = .returned (.bool (erlB ⟨st, sh, sd, sp, ⟨⟨eu, es, eh, ea⟩, en⟩, ⟨⟨fu, fs, fh, fa⟩, fn⟩⟩)) ∧ Below w'.heap.size w' w'') := fun w' => by exact rightEarly_any ⟨st, sh, sd, sp, ⟨⟨eu, es, eh, ea⟩, en⟩, ⟨⟨fu, fs, fh, fa⟩, fn⟩⟩ A n cap w'
  generalize pkB ⟨st, sh, sd, sp, ⟨⟨eu, es, eh, ea⟩, en⟩, ⟨⟨fu, fs, fh, fa⟩, fn⟩⟩ = z3 at c3 ⊢
  generalize fthB ⟨st, sh, sd, sp, ⟨⟨eu, es, eh, ea⟩, en⟩, ⟨⟨fu, fs, fh, fa⟩, fn⟩⟩ = z4 at c4 ⊢
  generalize erlB ⟨st, sh, sd, sp, ⟨⟨eu, es, eh, ea⟩, en⟩, ⟨⟨fu, fs, fh, fa⟩, fn⟩⟩ = z5 at c5 ⊢
  dsimp only
  generalize (st == 1 || st == 2) = z0 at c0 ⊢
  generalize isDrawB sh = z1 at c1 ⊢
  generalize isDrawB sd = z2 at c2 ⊢
  have hl : decide ((n : Int) ≤ 60) = decide (n ≤ 60) := by
    by_cases h6 : n ≤ 60
    · rw [decide_eq_true h6, decide_eq_true (by omega)]
    · rw [decide_eq_false h6, decide_eq_false (by omega)]
  generalize decide (n ≤ 60) = zn at hl ⊢
  clear HV
  obtain ⟨W0, hW0⟩ : ∃ W, w.alloc (.cells #[.int .i64 st, .int .i64 sh, .int .i64 sd, .int .i64 sp, .int .i64 eu, .int .i64 es, .int .i64 eh, .int .i64 ea, .int .i64 en, .int .i64 fu, .int .i64 fs, .int .i64 fh, .int .i64 fa, .int .i64 fn, .slice A n cap] 57) = W := ⟨_, rfl⟩
  have K0 : Hid (Below w.heap.size w W0) := by rw [← hW0]; exact (Below.refl _ w).alloc (Nat.le_refl _) _
  have S0 : Hid (W0.heap[w.heap.size]? = some (.cells #[.int .i64 st, .int .i64 sh, .int .i64 sd, .int .i64 sp, .int .i64 eu, .int .i64 es, .int .i64 eh, .int .i64 ea, .int .i64 en, .int .i64 fu, .int .i64 fs, .int .i64 fh, .int .i64 fa, .int .i64 fn, .slice A n cap] 57)) := by rw [← hW0]; exact heap1 w _
  go_enter Tryz.func43, Tryz.ntmps43
  go_wp2_with (refine wpList_load_row rfl 57 _ rfl (w.heap.size) rfl 57 _ (0, 0) _ S0.out Tryz.underlying57 rfl (by kernel_rfl) ?_)
  clear hW0
  refine (c0.out _).mono ?_
  rintro e w1 ⟨rfl, hb⟩
  have S1 := Lib.hid (blk_on hb S0.out)
  have K1 := Lib.hid (K0.out.trans (hb.mono K0.out.size))
  clear hb S0 K0
  cases z0 with
  | false =>
    go_wp2
    go_ret
    exact ⟨rfl, K1.out⟩
  | true =>
    obtain ⟨⟨a0, a1, a2, a3, a4, a5, a6, a7, a8, a9, a10, a11, a12, a13, a14⟩, _⟩ := blk15 S1.out
    go_wp2_with fail
    clear a0 a1 a2 a3 a4 a5 a6 a7 a8 a9 a10 a11 a12 a13 a14
    refine (c1.out _).mono ?_
    rintro e w2 ⟨rfl, hb⟩
    have S2 := Lib.hid (blk_on hb S1.out)
    have K2 := Lib.hid (K1.out.trans (hb.mono K1.out.size))
    clear hb S1 K1
    cases z1 with
    | false =>
      go_wp2
      go_ret
      exact ⟨rfl, K2.out⟩
    | true =>
      obtain ⟨⟨a0, a1, a2, a3, a4, a5, a6, a7, a8, a9, a10, a11, a12, a13, a14⟩, _⟩ := blk15 S2.out
      go_wp2_with fail
      clear a0 a1 a2 a3 a4 a5 a6 a7 a8 a9 a10 a11 a12 a13 a14
      refine (c2.out _).mono ?_
      rintro e w3 ⟨rfl, hb⟩
      have S3 := Lib.hid (blk_on hb S2.out)
      have K3 := Lib.hid (K2.out.trans (hb.mono K2.out.size))
      clear hb S2 K2
      cases z2 with
      | false =>
        go_wp2
        go_ret
        exact ⟨rfl, K3.out⟩
      | true =>
        go_wp2_with (refine wpList_load_wanted rfl 57 _ rfl (w.heap.size) rfl 57 _ (0, 0) _ S3.out Tryz.underlying57 rfl (by kernel_rfl) ?_)
        refine (c3.out _).mono ?_
        rintro e w4 ⟨rfl, hb⟩
        have S4 := Lib.hid (blk_on hb S3.out)
        have K4 := Lib.hid (K3.out.trans (hb.mono K3.out.size))
        clear hb S3 K3
        cases z3 with
        | false =>
          go_wp2
          go_ret
          exact ⟨rfl, K4.out⟩
        | true =>
          go_wp2_with (refine wpList_load_wanted rfl 57 _ rfl (w.heap.size) rfl 57 _ (0, 0) _ S4.out Tryz.underlying57 rfl (by kernel_rfl) ?_)
          refine (c4.out _).mono ?_
          rintro e w5 ⟨rfl, hb⟩
          have S5 := Lib.hid (blk_on hb S4.out)
          have K5 := Lib.hid (K4.out.trans (hb.mono K4.out.size))
          clear hb S4 K4
          cases z4 with
          | false =>
            go_wp2
            go_ret
            exact ⟨rfl, K5.out⟩
          | true =>
            go_wp2_with (refine wpList_load_wanted rfl 57 _ rfl (w.heap.size) rfl 57 _ (0, 0) _ S5.out Tryz.underlying57 rfl (by kernel_rfl) ?_)
            refine (c5.out _).mono ?_
            rintro e w6 ⟨rfl, hb⟩
            have S6 := Lib.hid (blk_on hb S5.out)
            have K6 := Lib.hid (K5.out.trans (hb.mono K5.out.size))
            clear hb S5 K5
            cases z5 with
            | false =>
              go_wp2
              go_ret
              exact ⟨rfl, K6.out⟩
            | true =>
              obtain ⟨⟨a0, a1, a2, a3, a4, a5, a6, a7, a8, a9, a10, a11, a12, a13, a14⟩, _⟩ := blk15 S6.out
              go_wp2
              go_ret
              exact ⟨by simp, K6.out⟩
theorem SeatOk_impl (s : SeatV) (A : Option Addr) (n cap : Nat) (l : List WordV) (w : World) (_ : EltsO w w.heap.size A n l) (_ : n ≤ 1048576) : Calls Tryz.prog 43 #[s.val A n cap] w fun e w' => e = .returned (.bool (seatOkB s n)) ∧ Below w.heap.size w w' := SeatOk_impl0 s A n cap w

end Go.Proofs.YtioogmeghmeelaaGreatDoor.Tx

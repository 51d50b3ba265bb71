/-
  Plain facts: how the program asks which seats are right. No conditions.
-/
import Derived.Test.YtioogmeghmeelaaSeat0
namespace Go.Proofs.Ytioogmeghmeelaa.Tx

/-- As the program asks: its secret, its row behind the answer, its row ahead of it. -/
def pkB (s : SeatV) : Bool := if s.p == 1 then s.f.k.s == 0 else if s.p == 2 then s.f.k.s != 0 else if s.p == 3 then s.f.k.s != 0 else false
def fthB (s : SeatV) : Bool := rowOkB s.f && s.f.k.same (forthK s.f.k.s s.h s.d)
def erlB (s : SeatV) : Bool := if s.st == 1 && s.p == 3 then rowOkB s.e && s.e.k.same (earlyK s.f.k.s s.h) else s.e.isZ
theorem isZ_iff {r : RowV} (h : r.isZ = true) : r = .zero := by
  obtain ⟨⟨u, s, h1, a⟩, n⟩ := r
  simp only [RowV.isZ, Bool.and_eq_true, beq_iff_eq] at h
  obtain ⟨rfl, rfl, rfl, rfl, rfl⟩ := h
  rfl
theorem row_zero_ok : rowOkB .zero = true := by decide
theorem forth_nz {k : KeyV} {h d : Int} (hh : isDrawB h = true) (hd : isDrawB d = true) (hk : k.same (forthK k.s h d) = true) : k.same .zero = false := by
  have e := KeyV.same_iff.1 hk
  cases hb : keyOkB ⟨4, k.s, h, d⟩ with
  | true =>
    rw [forthK, rightK_yes hb] at e
    refine KeyV.same_not fun e0 => ?_
    have h1 := congrArg KeyV.u (e.symm.trans e0)
    simp [KeyV.zero] at h1
  | false =>
    rw [forthK, rightK_no hb] at e
    rw [e] at hb
    simp [keyOkB, KeyV.zero, inB, hh, hd] at hb
theorem pick_sec (p s : Int) : (inB p 1 3 && ((s == 0) == (p == 1))) = (if p == 1 then s == 0 else if p == 2 then s != 0 else if p == 3 then s != 0 else false) := by
  by_cases h1 : p = 1
  · subst h1; cases h : s == 0 <;> simp [inB]
  by_cases h2 : p = 2
  · subst h2; cases h : s == 0 <;> simp [inB, h, bne]
  by_cases h3 : p = 3
  · subst h3; cases h : s == 0 <;> simp [inB, h, bne]
  rw [inB_no (by omega), bne_int h1, bne_int h2, bne_int h3]; rfl
theorem seat_prog (s : SeatV) (n : Nat) : seatOkB s n = ((s.st == 1 || s.st == 2) && (isDrawB s.h && (isDrawB s.d && (pkB s && (fthB s && (erlB s && decide (n ≤ 60))))))) := by
  have hs := pick_sec s.p s.f.k.s
  have hz := fun hh hd hk => forth_nz (k := s.f.k) (h := s.h) (d := s.d) hh hd hk
  have he : s.e.isZ = true → rowOkB s.e = true := fun h => by rw [isZ_iff h]; exact row_zero_ok
  unfold seatOkB fthB erlB
  rw [show pkB s = _ from hs.symm]
  generalize (s.st == 1 || s.st == 2) = a0
  generalize isDrawB s.h = a1 at *
  generalize isDrawB s.d = a2 at *
  generalize inB s.p 1 3 = a3
  generalize rowOkB s.e = a4 at *
  generalize rowOkB s.f = a5
  generalize decide (n ≤ 60) = a6
  generalize KeyV.same s.f.k .zero = a7 at *
  generalize KeyV.same s.f.k (forthK s.f.k.s s.h s.d) = a8 at *
  generalize ((s.f.k.s == 0) == (s.p == 1)) = a9
  generalize KeyV.same s.e.k (earlyK s.f.k.s s.h) = b0
  generalize RowV.isZ s.e = b1 at *
  generalize (s.st == 1 && s.p == 3) = b2
  clear hs
  cases a1 <;> cases a2 <;> simp
  cases a8 <;> simp
  have h7 : a7 = false := hz rfl rfl rfl
  subst h7
  cases b2
  · cases b1
    · simp
    · have h4 : a4 = true := he rfl
      subst h4
      cases a0 <;> cases a3 <;> cases a5 <;> cases a6 <;> cases a9 <;> rfl
  · cases a0 <;> cases a3 <;> cases a4 <;> cases a5 <;> cases a6 <;> cases a9 <;> cases b0 <;> rfl
/-- A new seat that is right was asked for with what goes together. -/
theorem new_goes {h d p s : Int} (e : seatOkB (newSeatRaw h d p s) 0 = true) : goesP p s = true := by
  rw [seat_prog] at e
  simp only [Bool.and_eq_true] at e
  obtain ⟨_, e1, e2, e3, e4, _⟩ := e
  replace e1 : isDrawB h = true := e1
  replace e2 : isDrawB d = true := e2
  have hf : (forthK s h d).same (forthK (forthK s h d).s h d) = true := by
    have h1 := e4
    simp only [fthB, Bool.and_eq_true] at h1
    exact h1.2
  have hnz := forth_nz e1 e2 hf
  cases hb : keyOkB ⟨4, s, h, d⟩ with
  | false => rw [forthK, rightK_no hb, KeyV.same_self] at hnz; cases hnz
  | true =>
    have hs : (forthK s h d).s = s := by rw [forthK, rightK_yes hb]
    have e5 : pkB (newSeatRaw h d p s) = (if p == 1 then s == 0 else if p == 2 then s != 0 else if p == 3 then s != 0 else false) := by
      show (if p == 1 then (forthK s h d).s == 0 else if p == 2 then (forthK s h d).s != 0 else if p == 3 then (forthK s h d).s != 0 else false) = _
      rw [hs]
    rw [e5] at e3
    have hr : inB s 0 100000 = true := by
      simp only [keyOkB, Bool.and_eq_true] at hb
      exact hb.2.1
    have hd' : s ≠ 0 → isDrawB s = true := fun hn => by
      have h1 := inB_true hr
      exact isDraw_iff.2 (by omega)
    rw [goesP]
    by_cases h1 : p = 1
    · rw [beq_int h1] at e3 ⊢; exact e3
    · rw [bne_int h1] at e3 ⊢
      by_cases h2 : p = 2
      · rw [beq_int h2] at e3 ⊢
        simp only [Bool.false_eq_true, if_false, if_true, bne_iff_ne] at e3
        simp [hd' (by simpa using e3)]
      · rw [bne_int h2] at e3 ⊢
        by_cases h3 : p = 3
        · rw [beq_int h3] at e3 ⊢
          simp only [Bool.false_eq_true, if_false, if_true, bne_iff_ne] at e3
          simp [hd' (by simpa using e3)]
        · rw [bne_int h3] at e3
          simp at e3
theorem newB_raw (h d p s : Int) : newSeatB h d p s = seatOkB (newSeatRaw h d p s) 0 := by
  rw [newSeatB]
  cases e : seatOkB (newSeatRaw h d p s) 0 with
  | false => simp
  | true => rw [new_goes e]; rfl

end Go.Proofs.Ytioogmeghmeelaa.Tx

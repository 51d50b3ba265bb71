/-
  What Hears of the model answers. Condition: at most 1048576 words.
-/
import Derived.Test.YtioogmeghmeelaaGreatDoorSeat5
import Derived.Test.YtioogmeghmeelaaGreatDoorNum
namespace Go.Proofs.YtioogmeghmeelaaGreatDoor.Tx
open Go.RowKit

/-- The text that ends the early words. -/
def endT (n : Nat) : ByteArray := ⟨#[101, 110, 100]⟩ ++ intT n
def isEnd (t : ByteArray) (n : Nat) : Bool := t.toList == (endT n).toList
/-- What a seat says to a box, what it is then, and what it has heard then. -/
def hearC (s : SeatV) (n : Nat) (b : BoxV) : Int :=
  if seatOkB s n then
    if s.st = 1 then (if takeB s.e b then (if n < 60 then 1 else 0) else (if takeB s.f b && isEnd (takeT s.f b) n then 2 else 0))
    else (if takeB s.f b && decide (n < 60) then 3 else 0)
  else 0
def hearS (s : SeatV) (n : Nat) (b : BoxV) : SeatV :=
  if seatOkB s n then
    if hearC s n b = 1 then { s with e := takeR s.e b }
    else if hearC s n b = 2 then { s with st := 2, e := .zero, f := takeR s.f b }
    else if hearC s n b = 3 then { s with f := takeR s.f b }
    else s
  else .zero
def hearL (s : SeatV) (l : List WordV) (b : BoxV) : List WordV :=
  if seatOkB s l.length then
    if hearC s l.length b = 1 then l ++ [⟨takeT s.e b, true⟩]
    else if hearC s l.length b = 3 then l ++ [⟨takeT s.f b, false⟩]
    else l
  else []
/-- The list that a seat leaves: nil, or made by the call. -/
def LogOut (w : World) (base : Nat) (A : Option Addr) (n cap : Nat) (l : List WordV) : Prop :=
  (A = none ∧ n = 0 ∧ cap = 0 ∧ l = []) ∨ ∃ g, A = some ⟨g, 0, none⟩ ∧ n = l.length ∧ MadeE w base 82 l g cap

theorem MadeG.not_blk {w : World} {B : Nat} {e : TypeId} {sz n : Nat} {vs : List Value} {gb cb : Nat} (h : MadeG w B e sz n vs gb cb) {b : Nat} {cs : Array Value} {t : TypeId} {fr : Nat × Nat} (hb : w.heap[b]? = some (.cells cs t fr)) (ht : t ≠ e) : gb ≠ b := by
  rintro rfl
  rcases h.own.2 with ⟨e1, _⟩ | ⟨g', cap, cur, hv, _, hblk, _⟩
  · cases e1
  · injection hv with h1 _ _
    injection h1 with h2
    injection h2 with h3 _ _
    subst h3
    rw [hb] at hblk
    injection hblk with h4
    injection h4 with _ h5 _
    exact ht h5

set_option maxRecDepth 100000 in
set_option maxHeartbeats 32000000 in
theorem Hears_spec (s : SeatV) (A : Option Addr) (n cap : Nat) (l : List WordV) (b : BoxV) (w : World) (h : EltsO w w.heap.size A n l) (hzc : A = none → cap = 0) (hn : n ≤ 1048576) :
    Calls Tryz.prog 18 #[s.val A n cap, b.val] w fun e w' => ∃ A' n' c', e = .returned (.tuple #[(hearS s n b).val A' n' c', .int .i64 (hearC s n b)]) ∧ LogOut w' w.heap.size A' n' c' (hearL s l b) ∧ Below w.heap.size w w' := by
  obtain ⟨i0, by0, hi, hz0, hz1, hz2, hby⟩ := infoWordE
  have hL : l.length = n := h.1
  have H0' : seatOkB s n = false → hearS s n b = .zero ∧ hearC s n b = 0 ∧ hearL s l b = [] := fun e => ⟨by rw [hearS, e]; rfl, by rw [hearC, e]; rfl, by rw [hearL, hL, e]; rfl⟩
  have HW0' : seatOkB s n = true → s.st = 1 → takeB s.e b = true → ¬ (n : Int) < 60 → hearS s n b = s ∧ hearC s n b = 0 ∧ hearL s l b = l := fun e a t r => by
    have c : hearC s n b = 0 := by rw [hearC, if_pos e, if_pos a, if_pos t, if_neg (by omega)]
    exact ⟨by rw [hearS, c, if_pos e]; rfl, c, by rw [hearL, hL, c, if_pos e]; rfl⟩
  have HW1' : seatOkB s n = true → s.st = 1 → takeB s.e b = true → (n : Int) < 60 → hearS s n b = { s with e := takeR s.e b } ∧ hearC s n b = 1 ∧ hearL s l b = l ++ [⟨takeT s.e b, true⟩] := fun e a t r => by
    have c : hearC s n b = 1 := by rw [hearC, if_pos e, if_pos a, if_pos t, if_pos (by omega)]
    exact ⟨by rw [hearS, c, if_pos e]; rfl, c, by rw [hearL, hL, c, if_pos e]; rfl⟩
  have HW2' : seatOkB s n = true → s.st = 1 → takeB s.e b = false → takeB s.f b = false → hearS s n b = s ∧ hearC s n b = 0 ∧ hearL s l b = l := fun e a t r => by
    have c : hearC s n b = 0 := by rw [hearC, if_pos e, if_pos a, t, r]; rfl
    exact ⟨by rw [hearS, c, if_pos e]; rfl, c, by rw [hearL, hL, c, if_pos e]; rfl⟩
  have HW3' : seatOkB s n = true → s.st = 1 → takeB s.e b = false → takeB s.f b = true → isEnd (takeT s.f b) n = false → hearS s n b = s ∧ hearC s n b = 0 ∧ hearL s l b = l := fun e a t r x => by
    have c : hearC s n b = 0 := by rw [hearC, if_pos e, if_pos a, t, r, x]; rfl
    exact ⟨by rw [hearS, c, if_pos e]; rfl, c, by rw [hearL, hL, c, if_pos e]; rfl⟩
  have HW4' : seatOkB s n = true → s.st = 1 → takeB s.e b = false → takeB s.f b = true → isEnd (takeT s.f b) n = true → hearS s n b = { s with st := 2, e := .zero, f := takeR s.f b } ∧ hearC s n b = 2 ∧ hearL s l b = l := fun e a t r x => by
    have c : hearC s n b = 2 := by rw [hearC, if_pos e, if_pos a, t, r, x]; rfl
    exact ⟨by rw [hearS, c, if_pos e]; rfl, c, by rw [hearL, hL, c, if_pos e]; rfl⟩
  have HO0' : seatOkB s n = true → s.st ≠ 1 → (takeB s.f b = false ∨ ¬ (n : Int) < 60) → hearS s n b = s ∧ hearC s n b = 0 ∧ hearL s l b = l := fun e a t => by
    have c : hearC s n b = 0 := by
      rw [hearC, if_pos e, if_neg a]
      rcases t with t | t
      · rw [t]; rfl
      · rw [decide_eq_false (show ¬ n < 60 by omega), Bool.and_false]; rfl
    exact ⟨by rw [hearS, c, if_pos e]; rfl, c, by rw [hearL, hL, c, if_pos e]; rfl⟩
  have HO1' : seatOkB s n = true → s.st ≠ 1 → takeB s.f b = true → (n : Int) < 60 → hearS s n b = { s with f := takeR s.f b } ∧ hearC s n b = 3 ∧ hearL s l b = l ++ [⟨takeT s.f b, false⟩] := fun e a t r => by
    have c : hearC s n b = 3 := by rw [hearC, if_pos e, if_neg a, t, decide_eq_true (show n < 60 by omega)]; rfl
    exact ⟨by rw [hearS, c, if_pos e]; rfl, c, by rw [hearL, hL, c, if_pos e]; rfl⟩
  have E := Lib.hid h
  have hz := Lib.hid hzc
  clear h hzc hL
  obtain ⟨st, sh, sd, sp, ⟨⟨eu, es, eh, ea⟩, en⟩, ⟨⟨fu, fs, fh, fa⟩, fn⟩⟩ := s
  obtain ⟨⟨xu, xs, xh, xa⟩, xn, xt, xp⟩ := b
  have HV : Hid (SeatV.val ⟨st, sh, sd, sp, ⟨⟨eu, es, eh, ea⟩, en⟩, ⟨⟨fu, fs, fh, fa⟩, fn⟩⟩ A n cap = .agg #[.int .i64 st, .int .i64 sh, .int .i64 sd, .int .i64 sp, .int .i64 eu, .int .i64 es, .int .i64 eh, .int .i64 ea, .int .i64 en, .int .i64 fu, .int .i64 fs, .int .i64 fh, .int .i64 fa, .int .i64 fn, .slice A n cap]) := rfl
  have HB : Hid (BoxV.val ⟨⟨xu, xs, xh, xa⟩, xn, xt, xp⟩ = .agg #[.int .i64 xu, .int .i64 xs, .int .i64 xh, .int .i64 xa, .int .i64 xn, .string xt, .bool xp]) := rfl
  rw [HV.out, HB.out]
  dsimp only at H0' HW0' HW1' HW2' HW3' HW4' HO0' HO1'
  have cS : Hid (∀ w' : World, Calls Tryz.prog 33 #[.agg #[.int .i64 st, .int .i64 sh, .int .i64 sd, .int .i64 sp, .int .i64 eu, .int .i64 es, .int .i64 eh, .int .i64 ea, .int .i64 en, .int .i64 fu, .int .i64 fs, .int .i64 fh, .int .i64 fa, .int .i64 fn, .slice A n cap]] w' fun e w'' => e = .returned (.bool (seatOkB ⟨st, sh, sd, sp, ⟨⟨eu, es, eh, ea⟩, en⟩, ⟨⟨fu, fs, fh, fa⟩, fn⟩⟩ n)) ∧ Below w'.heap.size w' w'') := fun w' => by exact SeatOk_spec ⟨st, sh, sd, sp, ⟨⟨eu, es, eh, ea⟩, en⟩, ⟨⟨fu, fs, fh, fa⟩, fn⟩⟩ A n cap w'
  have cTe' := fun w' => Take_spec ⟨⟨eu, es, eh, ea⟩, en⟩ ⟨⟨xu, xs, xh, xa⟩, xn, xt, xp⟩ w'
  have cTf' := fun w' => Take_spec ⟨⟨fu, fs, fh, fa⟩, fn⟩ ⟨⟨xu, xs, xh, xa⟩, xn, xt, xp⟩ w'
  have cI' := fun w' => l1Int_any (n : Int) ⟨by omega, by omega⟩ w'
  obtain ⟨⟨⟨ru, rs, rh, ra⟩, rn⟩, hre⟩ : ∃ x, takeR ⟨⟨eu, es, eh, ea⟩, en⟩ ⟨⟨xu, xs, xh, xa⟩, xn, xt, xp⟩ = x := ⟨_, rfl⟩
  obtain ⟨⟨⟨qu, qs, qh, qa⟩, qn⟩, hrf⟩ : ∃ x, takeR ⟨⟨fu, fs, fh, fa⟩, fn⟩ ⟨⟨xu, xs, xh, xa⟩, xn, xt, xp⟩ = x := ⟨_, rfl⟩
  rw [hre] at cTe' HW1'
  rw [hrf] at cTf' HW4' HO1'
  clear hre hrf
  unfold isEnd endT at HW3' HW4'
  generalize takeT ⟨⟨eu, es, eh, ea⟩, en⟩ ⟨⟨xu, xs, xh, xa⟩, xn, xt, xp⟩ = te at cTe' HW1'
  generalize takeT ⟨⟨fu, fs, fh, fa⟩, fn⟩ ⟨⟨xu, xs, xh, xa⟩, xn, xt, xp⟩ = tf at cTf' HW3' HW4' HO1'
  generalize takeB ⟨⟨eu, es, eh, ea⟩, en⟩ ⟨⟨xu, xs, xh, xa⟩, xn, xt, xp⟩ = be at cTe' HW0' HW1' HW2' HW3' HW4'
  generalize takeB ⟨⟨fu, fs, fh, fa⟩, fn⟩ ⟨⟨xu, xs, xh, xa⟩, xn, xt, xp⟩ = bf at cTf' HW2' HW3' HW4' HO0' HO1'
  have htn : (intT (n : Int)).size ≤ 19 := by
    rw [intT, if_neg (by omega)]
    exact (decT_size (by omega)).2
  generalize intT (n : Int) = tn at cI' HW3' HW4' htn
  have htn3 : (⟨#[101, 110, 100]⟩ : ByteArray).size = 3 := rfl
  generalize seatOkB ⟨st, sh, sd, sp, ⟨⟨eu, es, eh, ea⟩, en⟩, ⟨⟨fu, fs, fh, fa⟩, fn⟩⟩ n = zs at cS H0' HW0' HW1' HW2' HW3' HW4' HO0' HO1'
  generalize hearS ⟨st, sh, sd, sp, ⟨⟨eu, es, eh, ea⟩, en⟩, ⟨⟨fu, fs, fh, fa⟩, fn⟩⟩ n ⟨⟨xu, xs, xh, xa⟩, xn, xt, xp⟩ = oS at H0' HW0' HW1' HW2' HW3' HW4' HO0' HO1' ⊢
  generalize hearC ⟨st, sh, sd, sp, ⟨⟨eu, es, eh, ea⟩, en⟩, ⟨⟨fu, fs, fh, fa⟩, fn⟩⟩ n ⟨⟨xu, xs, xh, xa⟩, xn, xt, xp⟩ = oC at H0' HW0' HW1' HW2' HW3' HW4' HO0' HO1' ⊢
  generalize hearL ⟨st, sh, sd, sp, ⟨⟨eu, es, eh, ea⟩, en⟩, ⟨⟨fu, fs, fh, fa⟩, fn⟩⟩ l ⟨⟨xu, xs, xh, xa⟩, xn, xt, xp⟩ = oL at H0' HW0' HW1' HW2' HW3' HW4' HO0' HO1' ⊢
  have cTe : Hid (∀ w' : World, Calls Tryz.prog 37 #[.agg #[.int .i64 eu, .int .i64 es, .int .i64 eh, .int .i64 ea, .int .i64 en], .agg #[.int .i64 xu, .int .i64 xs, .int .i64 xh, .int .i64 xa, .int .i64 xn, .string xt, .bool xp]] w' fun e w'' => e = .returned (.tuple #[.agg #[.int .i64 ru, .int .i64 rs, .int .i64 rh, .int .i64 ra, .int .i64 rn], .string te, .bool be]) ∧ Below w'.heap.size w' w'') := fun w' => cTe' w'
  have cTf : Hid (∀ w' : World, Calls Tryz.prog 37 #[.agg #[.int .i64 fu, .int .i64 fs, .int .i64 fh, .int .i64 fa, .int .i64 fn], .agg #[.int .i64 xu, .int .i64 xs, .int .i64 xh, .int .i64 xa, .int .i64 xn, .string xt, .bool xp]] w' fun e w'' => e = .returned (.tuple #[.agg #[.int .i64 qu, .int .i64 qs, .int .i64 qh, .int .i64 qa, .int .i64 qn], .string tf, .bool bf]) ∧ Below w'.heap.size w' w'') := fun w' => cTf' w'
  have cI := Lib.hid cI'
  have H0 := Lib.hid H0'
  have HW0 := Lib.hid HW0'
  have HW1 := Lib.hid HW1'
  have HW2 := Lib.hid HW2'
  have HW3 := Lib.hid HW3'
  have HW4 := Lib.hid HW4'
  have HO0 := Lib.hid HO0'
  have HO1 := Lib.hid HO1'
  clear H0' HW0' HW1' HW2' HW3' HW4' HO0' HO1' cTe' cTf' cI' HV HB
  obtain ⟨W0, hW0⟩ : ∃ W, ((w.alloc (.cells #[.int .i64 st, .int .i64 sh, .int .i64 sd, .int .i64 sp, .int .i64 eu, .int .i64 es, .int .i64 eh, .int .i64 ea, .int .i64 en, .int .i64 fu, .int .i64 fs, .int .i64 fh, .int .i64 fa, .int .i64 fn, .slice A n cap] 57)).alloc (.cells #[.int .i64 xu, .int .i64 xs, .int .i64 xh, .int .i64 xa, .int .i64 xn, .string xt, .bool xp] 43)).alloc (.cells #[.int .i64 0, .int .i64 0, .int .i64 0, .int .i64 0, .int .i64 0, .int .i64 0, .int .i64 0, .int .i64 0, .int .i64 0, .int .i64 0, .int .i64 0, .int .i64 0, .int .i64 0, .int .i64 0, .slice none 0 0] 57) = W := ⟨_, rfl⟩
  have K0 : Hid (Below w.heap.size w W0) := by rw [← hW0]; exact (((Below.refl _ w).alloc (Nat.le_refl _) _).alloc (by simp; try omega) _).alloc (by simp; try omega) _
  have Y0 : Hid (W0.heap[w.heap.size]? = some (.cells #[.int .i64 st, .int .i64 sh, .int .i64 sd, .int .i64 sp, .int .i64 eu, .int .i64 es, .int .i64 eh, .int .i64 ea, .int .i64 en, .int .i64 fu, .int .i64 fs, .int .i64 fh, .int .i64 fa, .int .i64 fn, .slice A n cap] 57)) := by rw [← hW0]; exact heap3a w _ _ _
  have X0 : Hid (W0.heap[w.heap.size + 1]? = some (.cells #[.int .i64 xu, .int .i64 xs, .int .i64 xh, .int .i64 xa, .int .i64 xn, .string xt, .bool xp] 43)) := by rw [← hW0]; exact heap3b w _ _ _
  have R0 : Hid (W0.heap[w.heap.size + 1 + 1]? = some (.cells #[.int .i64 0, .int .i64 0, .int .i64 0, .int .i64 0, .int .i64 0, .int .i64 0, .int .i64 0, .int .i64 0, .int .i64 0, .int .i64 0, .int .i64 0, .int .i64 0, .int .i64 0, .int .i64 0, .slice none 0 0] 57)) := by rw [← hW0]; exact heap3c w _ _ _
  have zW0 : W0.heap.size = w.heap.size + 3 := by rw [← hW0]; simp
  go_enter Tryz.func18, Tryz.ntmps18
  go_wp2_with (refine wpList_load_row rfl 57 _ rfl (w.heap.size) rfl 57 _ (0, 0) _ Y0.out Tryz.underlying57 rfl (by kernel_rfl) ?_)
  clear hW0
  refine (cS.out _).mono ?_
  rintro e w1 ⟨rfl, hb⟩
  have Y1 := Lib.hid (blk_on hb Y0.out)
  have X1 := Lib.hid (blk_on hb X0.out)
  have R1 := Lib.hid (blk_on hb R0.out)
  have K1 := Lib.hid (K0.out.trans (hb.mono K0.out.size))
  clear hb Y0 X0 R0 K0
  have zw1 := K1.out.size
  cases zs with
  | false =>
    have HE := Lib.hid (H0.out rfl)
    go_wp2_with (refine wpList_store_row rfl 57 _ _ rfl (w.heap.size + 1 + 1) #[.int .i64 0, .int .i64 0, .int .i64 0, .int .i64 0, .int .i64 0, .int .i64 0, .int .i64 0, .int .i64 0, .int .i64 0, .int .i64 0, .int .i64 0, .int .i64 0, .int .i64 0, .int .i64 0, .slice none 0 0] rfl rfl 57 _ R1.out (by kernel_rfl) rfl (by simp [Value.oneCell']) ?_)
    exact row_ret2 (r := w.heap.size + 1 + 1) (cs := #[.int .i64 0, .int .i64 0, .int .i64 0, .int .i64 0, .int .i64 0, .int .i64 0, .int .i64 0, .int .i64 0, .int .i64 0, .int .i64 0, .int .i64 0, .int .i64 0, .int .i64 0, .int .i64 0, .slice none 0 0]) rfl rfl rfl (setRow_heap _ _ _ _ _ _ R1.out) Tryz.underlying57 rfl (by kernel_rfl) rfl ⟨none, 0, 0, by rw [HE.out.1, HE.out.2.1]; rfl, .inl ⟨rfl, rfl, rfl, HE.out.2.2⟩, below_setRow K1.out (by omega) _⟩
  | true =>
    go_wp2_with (refine wpList_load_row rfl 57 _ rfl (w.heap.size) rfl 57 _ (0, 0) _ Y1.out Tryz.underlying57 rfl (by kernel_rfl) ?_)
    have hY1 := blk_in R1.out
    refine (l14Copy_any ⟨st, sh, sd, sp, ⟨⟨eu, es, eh, ea⟩, en⟩, ⟨⟨fu, fs, fh, fa⟩, fn⟩⟩ A n cap l _ ((E.out.below K1.out).mono K1.out.size) hz.out hn).mono ?_
    rintro e w2 ⟨g, cb, rfl, hM, hb⟩
    have M0 := Lib.hid (hM.mono K1.out.size)
    have hgb := hM.base
    have hsw := hb.size
    clear hM
    have Y2 := Lib.hid (blk_on hb Y1.out)
    have X2 := Lib.hid (blk_on hb X1.out)
    have R2 := Lib.hid (blk_on hb R1.out)
    have K2 := Lib.hid (K1.out.trans (hb.mono K1.out.size))
    clear hb Y1 X1 R1 K1
    have HC : Hid (SeatV.val ⟨st, sh, sd, sp, ⟨⟨eu, es, eh, ea⟩, en⟩, ⟨⟨fu, fs, fh, fa⟩, fn⟩⟩ (some ⟨g, 0, none⟩) n cb = .agg #[.int .i64 st, .int .i64 sh, .int .i64 sd, .int .i64 sp, .int .i64 eu, .int .i64 es, .int .i64 eh, .int .i64 ea, .int .i64 en, .int .i64 fu, .int .i64 fs, .int .i64 fh, .int .i64 fa, .int .i64 fn, .slice (some ⟨g, 0, none⟩) n cb]) := rfl
    rw [HC.out]
    clear HC
    obtain ⟨V3, hV3⟩ : ∃ V, w2.alloc (.cells #[.int .i64 0, .int .i64 0, .int .i64 0, .int .i64 0, .int .i64 0, .int .i64 0, .int .i64 0, .int .i64 0, .int .i64 0, .int .i64 0, .int .i64 0, .int .i64 0, .int .i64 0, .int .i64 0, .slice none 0 0] 57) = V := ⟨_, rfl⟩
    have ltV3Y : w.heap.size < w2.heap.size := blk_in Y2.out
    have ltV3X : w.heap.size + 1 < w2.heap.size := blk_in X2.out
    have ltV3R : w.heap.size + 1 + 1 < w2.heap.size := blk_in R2.out
    have Y3 : Hid (V3.heap[w.heap.size]? = some (.cells #[.int .i64 st, .int .i64 sh, .int .i64 sd, .int .i64 sp, .int .i64 eu, .int .i64 es, .int .i64 eh, .int .i64 ea, .int .i64 en, .int .i64 fu, .int .i64 fs, .int .i64 fh, .int .i64 fa, .int .i64 fn, .slice A n cap] 57)) := by rw [← hV3]; exact alloc_blk Y2.out
    have X3 : Hid (V3.heap[w.heap.size + 1]? = some (.cells #[.int .i64 xu, .int .i64 xs, .int .i64 xh, .int .i64 xa, .int .i64 xn, .string xt, .bool xp] 43)) := by rw [← hV3]; exact alloc_blk X2.out
    have R3 : Hid (V3.heap[w.heap.size + 1 + 1]? = some (.cells #[.int .i64 0, .int .i64 0, .int .i64 0, .int .i64 0, .int .i64 0, .int .i64 0, .int .i64 0, .int .i64 0, .int .i64 0, .int .i64 0, .int .i64 0, .int .i64 0, .int .i64 0, .int .i64 0, .slice none 0 0] 57)) := by rw [← hV3]; exact alloc_blk R2.out
    have hb : Below w2.heap.size w2 V3 := by rw [← hV3]; exact (Below.refl _ w2).alloc (Nat.le_refl _) _
    have K3 := Lib.hid (K2.out.trans (hb.mono K2.out.size))
    have O3 : Hid (V3.heap[w2.heap.size]? = some (.cells #[.int .i64 0, .int .i64 0, .int .i64 0, .int .i64 0, .int .i64 0, .int .i64 0, .int .i64 0, .int .i64 0, .int .i64 0, .int .i64 0, .int .i64 0, .int .i64 0, .int .i64 0, .int .i64 0, .slice none 0 0] 57)) := by rw [← hV3]; exact heap1 w2 _
    have lbV3 : w.heap.size ≤ w2.heap.size := K2.out.size
    clear hb Y2 X2 R2 K2
    have M1 := Lib.hid ((by rw [← hV3]; exact M0.out.below ((Below.refl _ _).alloc (Nat.le_refl _) _) : MadeE V3 w.heap.size 82 l g cb))
    clear M0
    have Y4 : Hid ((V3.setRow w2.heap.size #[.int .i64 st, .int .i64 sh, .int .i64 sd, .int .i64 sp, .int .i64 eu, .int .i64 es, .int .i64 eh, .int .i64 ea, .int .i64 en, .int .i64 fu, .int .i64 fs, .int .i64 fh, .int .i64 fa, .int .i64 fn, .slice (some ⟨g, 0, none⟩) n cb]).heap[w.heap.size]? = some (.cells #[.int .i64 st, .int .i64 sh, .int .i64 sd, .int .i64 sp, .int .i64 eu, .int .i64 es, .int .i64 eh, .int .i64 ea, .int .i64 en, .int .i64 fu, .int .i64 fs, .int .i64 fh, .int .i64 fa, .int .i64 fn, .slice A n cap] 57)) := (setRow_other _ _ _ _ (by omega)).trans Y3.out
    have X4 : Hid ((V3.setRow w2.heap.size #[.int .i64 st, .int .i64 sh, .int .i64 sd, .int .i64 sp, .int .i64 eu, .int .i64 es, .int .i64 eh, .int .i64 ea, .int .i64 en, .int .i64 fu, .int .i64 fs, .int .i64 fh, .int .i64 fa, .int .i64 fn, .slice (some ⟨g, 0, none⟩) n cb]).heap[w.heap.size + 1]? = some (.cells #[.int .i64 xu, .int .i64 xs, .int .i64 xh, .int .i64 xa, .int .i64 xn, .string xt, .bool xp] 43)) := (setRow_other _ _ _ _ (by omega)).trans X3.out
    have R4 : Hid ((V3.setRow w2.heap.size #[.int .i64 st, .int .i64 sh, .int .i64 sd, .int .i64 sp, .int .i64 eu, .int .i64 es, .int .i64 eh, .int .i64 ea, .int .i64 en, .int .i64 fu, .int .i64 fs, .int .i64 fh, .int .i64 fa, .int .i64 fn, .slice (some ⟨g, 0, none⟩) n cb]).heap[w.heap.size + 1 + 1]? = some (.cells #[.int .i64 0, .int .i64 0, .int .i64 0, .int .i64 0, .int .i64 0, .int .i64 0, .int .i64 0, .int .i64 0, .int .i64 0, .int .i64 0, .int .i64 0, .int .i64 0, .int .i64 0, .int .i64 0, .slice none 0 0] 57)) := (setRow_other _ _ _ _ (by omega)).trans R3.out
    have O4 : Hid ((V3.setRow w2.heap.size #[.int .i64 st, .int .i64 sh, .int .i64 sd, .int .i64 sp, .int .i64 eu, .int .i64 es, .int .i64 eh, .int .i64 ea, .int .i64 en, .int .i64 fu, .int .i64 fs, .int .i64 fh, .int .i64 fa, .int .i64 fn, .slice (some ⟨g, 0, none⟩) n cb]).heap[w2.heap.size]? = some (.cells #[.int .i64 st, .int .i64 sh, .int .i64 sd, .int .i64 sp, .int .i64 eu, .int .i64 es, .int .i64 eh, .int .i64 ea, .int .i64 en, .int .i64 fu, .int .i64 fs, .int .i64 fh, .int .i64 fa, .int .i64 fn, .slice (some ⟨g, 0, none⟩) n cb] 57)) := setRow_heap _ _ _ _ _ _ O3.out
    have K4 : Hid (Below w.heap.size w (V3.setRow w2.heap.size #[.int .i64 st, .int .i64 sh, .int .i64 sd, .int .i64 sp, .int .i64 eu, .int .i64 es, .int .i64 eh, .int .i64 ea, .int .i64 en, .int .i64 fu, .int .i64 fs, .int .i64 fh, .int .i64 fa, .int .i64 fn, .slice (some ⟨g, 0, none⟩) n cb])) := below_setRow K3.out (by omega) _
    by_cases hroom : n < 60
    ·
      have hr1 : decide ((n : Int) < 60) = true := by exact decide_eq_true (by omega)
      have hr2 : (n : Int) < 60 := by omega
      clear hroom
      by_cases hst : st = 1
      ·
        have hst' : (st == 1) = true := beq_int hst
        have hst2 := Lib.hid hst
        clear hst
        obtain ⟨⟨a0, a1, a2, a3, a4, a5, a6, a7, a8, a9, a10, a11, a12, a13, a14⟩, _⟩ := blk15 Y4.out
        obtain ⟨⟨x0, x1, x2, x3, x4, x5, x6⟩, _⟩ := blk7 X4.out
        go_wp2_with (refine wpList_store_row rfl 57 _ _ rfl (w2.heap.size) #[.int .i64 st, .int .i64 sh, .int .i64 sd, .int .i64 sp, .int .i64 eu, .int .i64 es, .int .i64 eh, .int .i64 ea, .int .i64 en, .int .i64 fu, .int .i64 fs, .int .i64 fh, .int .i64 fa, .int .i64 fn, .slice (some ⟨g, 0, none⟩) n cb] rfl rfl 57 _ O3.out (by kernel_rfl) rfl (by simp [Value.oneCell']) ?_)
        clear a0 a1 a2 a3 a4 a5 a6 a7 a8 a9 a10 a11 a12 a13 a14
        clear x0 x1 x2 x3 x4 x5 x6
        have M2 : Hid (MadeE (V3.setRow w2.heap.size #[.int .i64 st, .int .i64 sh, .int .i64 sd, .int .i64 sp, .int .i64 eu, .int .i64 es, .int .i64 eh, .int .i64 ea, .int .i64 en, .int .i64 fu, .int .i64 fs, .int .i64 fh, .int .i64 fa, .int .i64 fn, .slice (some ⟨g, 0, none⟩) n cb]) w.heap.size 82 l g cb) := Lib.hid (M1.out.heap (setRow_other _ _ _ _ (by omega)))
        clear M1
        clear hV3 Y3 X3 R3 O3 K3
        generalize V3.setRow w2.heap.size #[.int .i64 st, .int .i64 sh, .int .i64 sd, .int .i64 sp, .int .i64 eu, .int .i64 es, .int .i64 eh, .int .i64 ea, .int .i64 en, .int .i64 fu, .int .i64 fs, .int .i64 fh, .int .i64 fa, .int .i64 fn, .slice (some ⟨g, 0, none⟩) n cb] = S4 at Y4 X4 R4 O4 K4 M2 ⊢
        refine (cTe.out _).mono ?_
        rintro e w5 ⟨rfl, hb⟩
        have M3 := Lib.hid (M2.out.below hb)
        clear M2
        have Y5 := Lib.hid (blk_on hb Y4.out)
        have X5 := Lib.hid (blk_on hb X4.out)
        have R5 := Lib.hid (blk_on hb R4.out)
        have O5 := Lib.hid (blk_on hb O4.out)
        have K5 := Lib.hid (K4.out.trans (hb.mono K4.out.size))
        clear hb Y4 X4 R4 O4 K4
        obtain ⟨V6, hV6⟩ : ∃ V, w5.alloc (.cells #[.int .i64 ru, .int .i64 rs, .int .i64 rh, .int .i64 ra, .int .i64 rn] 54) = V := ⟨_, rfl⟩
        have ltV6Y : w.heap.size < w5.heap.size := blk_in Y5.out
        have ltV6X : w.heap.size + 1 < w5.heap.size := blk_in X5.out
        have ltV6R : w.heap.size + 1 + 1 < w5.heap.size := blk_in R5.out
        have ltV6O : w2.heap.size < w5.heap.size := blk_in O5.out
        have Y6 : Hid (V6.heap[w.heap.size]? = some (.cells #[.int .i64 st, .int .i64 sh, .int .i64 sd, .int .i64 sp, .int .i64 eu, .int .i64 es, .int .i64 eh, .int .i64 ea, .int .i64 en, .int .i64 fu, .int .i64 fs, .int .i64 fh, .int .i64 fa, .int .i64 fn, .slice A n cap] 57)) := by rw [← hV6]; exact alloc_blk Y5.out
        have X6 : Hid (V6.heap[w.heap.size + 1]? = some (.cells #[.int .i64 xu, .int .i64 xs, .int .i64 xh, .int .i64 xa, .int .i64 xn, .string xt, .bool xp] 43)) := by rw [← hV6]; exact alloc_blk X5.out
        have R6 : Hid (V6.heap[w.heap.size + 1 + 1]? = some (.cells #[.int .i64 0, .int .i64 0, .int .i64 0, .int .i64 0, .int .i64 0, .int .i64 0, .int .i64 0, .int .i64 0, .int .i64 0, .int .i64 0, .int .i64 0, .int .i64 0, .int .i64 0, .int .i64 0, .slice none 0 0] 57)) := by rw [← hV6]; exact alloc_blk R5.out
        have O6 : Hid (V6.heap[w2.heap.size]? = some (.cells #[.int .i64 st, .int .i64 sh, .int .i64 sd, .int .i64 sp, .int .i64 eu, .int .i64 es, .int .i64 eh, .int .i64 ea, .int .i64 en, .int .i64 fu, .int .i64 fs, .int .i64 fh, .int .i64 fa, .int .i64 fn, .slice (some ⟨g, 0, none⟩) n cb] 57)) := by rw [← hV6]; exact alloc_blk O5.out
        have hb : Below w5.heap.size w5 V6 := by rw [← hV6]; exact (Below.refl _ w5).alloc (Nat.le_refl _) _
        have K6 := Lib.hid (K5.out.trans (hb.mono K5.out.size))
        have T6 : Hid (V6.heap[w5.heap.size]? = some (.cells #[.int .i64 ru, .int .i64 rs, .int .i64 rh, .int .i64 ra, .int .i64 rn] 54)) := by rw [← hV6]; exact heap1 w5 _
        have lbV6 : w.heap.size ≤ w5.heap.size := K5.out.size
        clear hb Y5 X5 R5 O5 K5
        have M4 : Hid (MadeE V6 w.heap.size 82 l g cb) := by rw [← hV6]; exact M3.out.below ((Below.refl _ _).alloc (Nat.le_refl _) _)
        clear M3
        cases be with
        | true =>
          obtain ⟨⟨c0, c1, c2, c3, c4⟩, _⟩ := blk5 T6.out
          obtain ⟨⟨d0, d1, d2, d3, d4, d5, d6, d7, d8, d9, d10, d11, d12, d13, d14⟩, dz0, dz1, dz2, dz3, dz4, dz5, dz6, dz7, dz8, dz9, dz10, dz11, dz12, dz13, dz14⟩ := blk15 O6.out
          obtain ⟨S7, qS7⟩ : ∃ W, setAll V6 w2.heap.size 4 [.int .i64 ru, .int .i64 rs, .int .i64 rh, .int .i64 ra, .int .i64 rn] = W := ⟨_, rfl⟩
          have hS7 : (((((V6.setCell ⟨w2.heap.size, 4, none⟩ (.int .i64 ru)).setCell ⟨w2.heap.size, 5, none⟩ (.int .i64 rs)).setCell ⟨w2.heap.size, 6, none⟩ (.int .i64 rh)).setCell ⟨w2.heap.size, 7, none⟩ (.int .i64 ra)).setCell ⟨w2.heap.size, 8, none⟩ (.int .i64 rn)) = S7 := qS7
          have Y7 : Hid (S7.heap[w.heap.size]? = some (.cells #[.int .i64 st, .int .i64 sh, .int .i64 sd, .int .i64 sp, .int .i64 eu, .int .i64 es, .int .i64 eh, .int .i64 ea, .int .i64 en, .int .i64 fu, .int .i64 fs, .int .i64 fh, .int .i64 fa, .int .i64 fn, .slice A n cap] 57)) := by rw [← qS7]; exact setAll_away (by omega) _ _ Y6.out
          have X7 : Hid (S7.heap[w.heap.size + 1]? = some (.cells #[.int .i64 xu, .int .i64 xs, .int .i64 xh, .int .i64 xa, .int .i64 xn, .string xt, .bool xp] 43)) := by rw [← qS7]; exact setAll_away (by omega) _ _ X6.out
          have R7 : Hid (S7.heap[w.heap.size + 1 + 1]? = some (.cells #[.int .i64 0, .int .i64 0, .int .i64 0, .int .i64 0, .int .i64 0, .int .i64 0, .int .i64 0, .int .i64 0, .int .i64 0, .int .i64 0, .int .i64 0, .int .i64 0, .int .i64 0, .int .i64 0, .slice none 0 0] 57)) := by rw [← qS7]; exact setAll_away (by omega) _ _ R6.out
          have O7 : Hid (S7.heap[w2.heap.size]? = some (.cells #[.int .i64 st, .int .i64 sh, .int .i64 sd, .int .i64 sp, .int .i64 ru, .int .i64 rs, .int .i64 rh, .int .i64 ra, .int .i64 rn, .int .i64 fu, .int .i64 fs, .int .i64 fh, .int .i64 fa, .int .i64 fn, .slice (some ⟨g, 0, none⟩) n cb] 57)) := by
            rw [← qS7]
            refine (setAll_blk (w := V6) (g := w2.heap.size) [.int .i64 ru, .int .i64 rs, .int .i64 rh, .int .i64 ra, .int .i64 rn] 4 O6.out).trans ?_
            refine congrArg (fun z => some (Obj.cells z 57 (0, 0))) (Array.toList_inj.1 ?_)
            rw [overA_toList _ _ _ (by simp)]
            rfl
          have T7 : Hid (S7.heap[w5.heap.size]? = some (.cells #[.int .i64 ru, .int .i64 rs, .int .i64 rh, .int .i64 ra, .int .i64 rn] 54)) := by rw [← qS7]; exact setAll_away (by omega) _ _ T6.out
          have K7 : Hid (Below w.heap.size w S7) := by rw [← qS7]; exact setAll_below (g := w2.heap.size) (by omega) [.int .i64 ru, .int .i64 rs, .int .i64 rh, .int .i64 ra, .int .i64 rn] 4 K6.out
          have zS7 : V6.heap.size = S7.heap.size := by rw [← qS7]; exact (setAll_size [.int .i64 ru, .int .i64 rs, .int .i64 rh, .int .i64 ra, .int .i64 rn] 4 _).symm
          clear qS7 Y6 X6 R6 O6 T6 K6
          have M5 : Hid (MadeE S7 w.heap.size 82 l g cb) := by rw [← hS7]; exact M4.out.heap (setAll_off (g := w2.heap.size) (by omega) [.int .i64 ru, .int .i64 rs, .int .i64 rh, .int .i64 ra, .int .i64 rn] 4)
          clear M4
          go_upto_region 11 with fail
          clear c0 c1 c2 c3 c4
          clear d0 d1 d2 d3 d4 d5 d6 d7 d8 d9 d10 d11 d12 d13 d14 dz0 dz1 dz2 dz3 dz4 dz5 dz6 dz7 dz8 dz9 dz10 dz11 dz12 dz13 dz14
          try rw [hS7]
          clear hS7 hV6
          have e9 : (l ++ [(⟨te, true⟩ : WordV)]).length = n + 1 := by rw [List.length_append, E.out.1]; rfl
          have hbk := M5.out.base
          have hOw := blk_in O7.out
          have hRw := blk_in R7.out
          have hKs := K7.out.size
          obtain ⟨⟨a0, a1, a2, a3, a4, a5, a6, a7, a8, a9, a10, a11, a12, a13, a14⟩, _⟩ := blk15 O7.out
          go_upto_region 12 with (at_builtin; refine wpList_append_own _ rfl _ _ 55 rfl w.heap.size 82 i0 WordV.zero.val 2 by0 Tryz.underlying55 hi hz0 hz1 hz2 rfl (by decide) _ n (l.flatMap Cells.cells) rfl (by have h1 := M5.out.own; rw [E.out.1] at h1; exact h1.alloc _) ⟨S7.heap.size, 0, none⟩ 1 1 ([(⟨te, true⟩ : WordV)].flatMap Cells.cells) rfl rfl (cells_new S7 ([.string te, .bool true]) _) flat_one (by unfold maxLen; omega) (Nat.le_trans (Nat.mul_le_mul (by omega : n + 1 ≤ 1048577) hby) (by decide)) (by simp; omega) ?_; intro v' w3 hown' hgrow hiff; have h9 := made_app (l := l) (l2 := [(⟨te, true⟩ : WordV)]) (n := n) (m := 1) (gb := g) (cb := cb) hown' E.out.1.symm rfl hiff; obtain ⟨gb', cb', rfl, hM'⟩ := h9; have HM' : Hid (MadeE w3 w.heap.size 82 (l ++ [(⟨te, true⟩ : WordV)]) gb' cb') := hM'; have HGR := Lib.hid hgrow; clear hown' hgrow hM' hiff; have O9 : Hid (w3.heap[w2.heap.size]? = some (.cells #[.int .i64 st, .int .i64 sh, .int .i64 sd, .int .i64 sp, .int .i64 ru, .int .i64 rs, .int .i64 rh, .int .i64 ra, .int .i64 rn, .int .i64 fu, .int .i64 fs, .int .i64 fh, .int .i64 fa, .int .i64 fn, .slice (some ⟨g, 0, none⟩) n cb] 57)) := blk_off HGR.out (alloc_blk O7.out) (show w2.heap.size ≠ g by omega); obtain ⟨⟨b0, b1, b2, b3, b4, b5, b6, b7, b8, b9, b10, b11, b12, b13, b14⟩, bz0, bz1, bz2, bz3, bz4, bz5, bz6, bz7, bz8, bz9, bz10, bz11, bz12, bz13, bz14⟩ := blk15 O9.out; rw [e9])
          clear a0 a1 a2 a3 a4 a5 a6 a7 a8 a9 a10 a11 a12 a13 a14
          clear b0 b1 b2 b3 b4 b5 b6 b7 b8 b9 b10 b11 b12 b13 b14 bz0 bz1 bz2 bz3 bz4 bz5 bz6 bz7 bz8 bz9 bz10 bz11 bz12 bz13 bz14
          have R8 : Hid (w3.heap[w.heap.size + 1 + 1]? = some (.cells #[.int .i64 0, .int .i64 0, .int .i64 0, .int .i64 0, .int .i64 0, .int .i64 0, .int .i64 0, .int .i64 0, .int .i64 0, .int .i64 0, .int .i64 0, .int .i64 0, .int .i64 0, .int .i64 0, .slice none 0 0] 57)) := blk_off HGR.out (alloc_blk R7.out) (show w.heap.size + 1 + 1 ≠ g by omega)
          have K8 : Hid (Below w.heap.size w w3) := below_off (K7.out.alloc K7.out.size _) HGR.out ⟨show w.heap.size ≤ g by omega, by rw [World.size_alloc]; omega⟩
          have O8 := O9
          clear O9
          clear Y7 X7 R7 O7 T7 K7 M5
          have hb9 := HM'.out.base
          have hnO := HM'.out.not_blk O8.out (by decide)
          have hnR := HM'.out.not_blk R8.out (by decide)
          obtain ⟨S8, qS8⟩ : ∃ W, setAll w3 w2.heap.size 14 [.slice (some ⟨gb', 0, none⟩) (n + 1) cb'] = W := ⟨_, rfl⟩
          have hS8 : (w3.setCell ⟨w2.heap.size, 14, none⟩ (.slice (some ⟨gb', 0, none⟩) (n + 1) cb')) = S8 := qS8
          have R9 : Hid (S8.heap[w.heap.size + 1 + 1]? = some (.cells #[.int .i64 0, .int .i64 0, .int .i64 0, .int .i64 0, .int .i64 0, .int .i64 0, .int .i64 0, .int .i64 0, .int .i64 0, .int .i64 0, .int .i64 0, .int .i64 0, .int .i64 0, .int .i64 0, .slice none 0 0] 57)) := by rw [← qS8]; exact setAll_away (by omega) _ _ R8.out
          have O9 : Hid (S8.heap[w2.heap.size]? = some (.cells #[.int .i64 st, .int .i64 sh, .int .i64 sd, .int .i64 sp, .int .i64 ru, .int .i64 rs, .int .i64 rh, .int .i64 ra, .int .i64 rn, .int .i64 fu, .int .i64 fs, .int .i64 fh, .int .i64 fa, .int .i64 fn, .slice (some ⟨gb', 0, none⟩) (n + 1) cb'] 57)) := by
            rw [← qS8]
            refine (setAll_blk (w := w3) (g := w2.heap.size) [.slice (some ⟨gb', 0, none⟩) (n + 1) cb'] 14 O8.out).trans ?_
            refine congrArg (fun z => some (Obj.cells z 57 (0, 0))) (Array.toList_inj.1 ?_)
            rw [overA_toList _ _ _ (by simp)]
            rfl
          have K9 : Hid (Below w.heap.size w S8) := by rw [← qS8]; exact setAll_below (g := w2.heap.size) (by omega) [.slice (some ⟨gb', 0, none⟩) (n + 1) cb'] 14 K8.out
          have zS8 : w3.heap.size = S8.heap.size := by rw [← qS8]; exact (setAll_size [.slice (some ⟨gb', 0, none⟩) (n + 1) cb'] 14 _).symm
          clear qS8 R8 O8 K8
          have MF : Hid (MadeE S8 w.heap.size 82 (l ++ [(⟨te, true⟩ : WordV)]) gb' cb') := by
            rw [← hS8]
            exact HM'.out.heap (setAll_off (g := w2.heap.size) (by omega) [.slice (some ⟨gb', 0, none⟩) (n + 1) cb'] 14)
          try rw [hS8]
          clear hS8
          have HE := Lib.hid (HW1.out (by trivial) hst2.out (by trivial) hr2)
          go_wp2_with (first | (refine wpList_load_row rfl 57 _ rfl (w2.heap.size) rfl 57 _ (0, 0) _ O9.out Tryz.underlying57 rfl (by kernel_rfl) ?_) | (refine wpList_store_row rfl 57 _ _ rfl (w.heap.size + 1 + 1) #[.int .i64 st, .int .i64 sh, .int .i64 sd, .int .i64 sp, .int .i64 ru, .int .i64 rs, .int .i64 rh, .int .i64 ra, .int .i64 rn, .int .i64 fu, .int .i64 fs, .int .i64 fh, .int .i64 fa, .int .i64 fn, .slice (some ⟨gb', 0, none⟩) (n + 1) cb'] rfl rfl 57 _ R9.out (by kernel_rfl) rfl (by simp [Value.oneCell']) ?_))
          exact row_ret2 (r := w.heap.size + 1 + 1) (cs := #[.int .i64 st, .int .i64 sh, .int .i64 sd, .int .i64 sp, .int .i64 ru, .int .i64 rs, .int .i64 rh, .int .i64 ra, .int .i64 rn, .int .i64 fu, .int .i64 fs, .int .i64 fh, .int .i64 fa, .int .i64 fn, .slice (some ⟨gb', 0, none⟩) (n + 1) cb']) rfl rfl rfl (setRow_heap _ _ _ _ _ _ R9.out) Tryz.underlying57 rfl (by kernel_rfl) rfl ⟨_, n + 1, cb', by rw [HE.out.1, HE.out.2.1]; rfl, .inr ⟨gb', rfl, by rw [HE.out.2.2]; exact e9.symm, by rw [HE.out.2.2]; exact MF.out.heap (setRow_other _ _ _ _ (by omega))⟩, below_setRow K9.out (by omega) _⟩
        | false =>
          obtain ⟨⟨a0, a1, a2, a3, a4, a5, a6, a7, a8, a9, a10, a11, a12, a13, a14⟩, _⟩ := blk15 Y6.out
          obtain ⟨⟨x0, x1, x2, x3, x4, x5, x6⟩, _⟩ := blk7 X6.out
          go_wp2_with fail
          clear a0 a1 a2 a3 a4 a5 a6 a7 a8 a9 a10 a11 a12 a13 a14
          clear x0 x1 x2 x3 x4 x5 x6
          clear hV6
          refine (cTf.out _).mono ?_
          rintro e w7 ⟨rfl, hb⟩
          have M5 := Lib.hid (M4.out.below hb)
          clear M4
          have Y7 := Lib.hid (blk_on hb Y6.out)
          have X7 := Lib.hid (blk_on hb X6.out)
          have R7 := Lib.hid (blk_on hb R6.out)
          have O7 := Lib.hid (blk_on hb O6.out)
          have T7 := Lib.hid (blk_on hb T6.out)
          have K7 := Lib.hid (K6.out.trans (hb.mono K6.out.size))
          clear hb Y6 X6 R6 O6 T6 K6
          obtain ⟨V8, hV8⟩ : ∃ V, w7.alloc (.cells #[.int .i64 qu, .int .i64 qs, .int .i64 qh, .int .i64 qa, .int .i64 qn] 54) = V := ⟨_, rfl⟩
          have ltV8Y : w.heap.size < w7.heap.size := blk_in Y7.out
          have ltV8X : w.heap.size + 1 < w7.heap.size := blk_in X7.out
          have ltV8R : w.heap.size + 1 + 1 < w7.heap.size := blk_in R7.out
          have ltV8O : w2.heap.size < w7.heap.size := blk_in O7.out
          have ltV8T : w5.heap.size < w7.heap.size := blk_in T7.out
          have Y8 : Hid (V8.heap[w.heap.size]? = some (.cells #[.int .i64 st, .int .i64 sh, .int .i64 sd, .int .i64 sp, .int .i64 eu, .int .i64 es, .int .i64 eh, .int .i64 ea, .int .i64 en, .int .i64 fu, .int .i64 fs, .int .i64 fh, .int .i64 fa, .int .i64 fn, .slice A n cap] 57)) := by rw [← hV8]; exact alloc_blk Y7.out
          have X8 : Hid (V8.heap[w.heap.size + 1]? = some (.cells #[.int .i64 xu, .int .i64 xs, .int .i64 xh, .int .i64 xa, .int .i64 xn, .string xt, .bool xp] 43)) := by rw [← hV8]; exact alloc_blk X7.out
          have R8 : Hid (V8.heap[w.heap.size + 1 + 1]? = some (.cells #[.int .i64 0, .int .i64 0, .int .i64 0, .int .i64 0, .int .i64 0, .int .i64 0, .int .i64 0, .int .i64 0, .int .i64 0, .int .i64 0, .int .i64 0, .int .i64 0, .int .i64 0, .int .i64 0, .slice none 0 0] 57)) := by rw [← hV8]; exact alloc_blk R7.out
          have O8 : Hid (V8.heap[w2.heap.size]? = some (.cells #[.int .i64 st, .int .i64 sh, .int .i64 sd, .int .i64 sp, .int .i64 eu, .int .i64 es, .int .i64 eh, .int .i64 ea, .int .i64 en, .int .i64 fu, .int .i64 fs, .int .i64 fh, .int .i64 fa, .int .i64 fn, .slice (some ⟨g, 0, none⟩) n cb] 57)) := by rw [← hV8]; exact alloc_blk O7.out
          have T8 : Hid (V8.heap[w5.heap.size]? = some (.cells #[.int .i64 ru, .int .i64 rs, .int .i64 rh, .int .i64 ra, .int .i64 rn] 54)) := by rw [← hV8]; exact alloc_blk T7.out
          have hb : Below w7.heap.size w7 V8 := by rw [← hV8]; exact (Below.refl _ w7).alloc (Nat.le_refl _) _
          have K8 := Lib.hid (K7.out.trans (hb.mono K7.out.size))
          have U8 : Hid (V8.heap[w7.heap.size]? = some (.cells #[.int .i64 qu, .int .i64 qs, .int .i64 qh, .int .i64 qa, .int .i64 qn] 54)) := by rw [← hV8]; exact heap1 w7 _
          have lbV8 : w.heap.size ≤ w7.heap.size := K7.out.size
          clear hb Y7 X7 R7 O7 T7 K7
          have M6 : Hid (MadeE V8 w.heap.size 82 l g cb) := by rw [← hV8]; exact M5.out.below ((Below.refl _ _).alloc (Nat.le_refl _) _)
          clear M5
          cases bf with
          | false =>
            have HE := Lib.hid (HW2.out (by trivial) hst2.out (by trivial) (by trivial))
            go_wp2_with (first | (refine wpList_load_row rfl 57 _ rfl (w2.heap.size) rfl 57 _ (0, 0) _ O8.out Tryz.underlying57 rfl (by kernel_rfl) ?_) | (refine wpList_store_row rfl 57 _ _ rfl (w.heap.size + 1 + 1) #[.int .i64 st, .int .i64 sh, .int .i64 sd, .int .i64 sp, .int .i64 eu, .int .i64 es, .int .i64 eh, .int .i64 ea, .int .i64 en, .int .i64 fu, .int .i64 fs, .int .i64 fh, .int .i64 fa, .int .i64 fn, .slice (some ⟨g, 0, none⟩) n cb] rfl rfl 57 _ R8.out (by kernel_rfl) rfl (by simp [Value.oneCell']) ?_))
            exact row_ret2 (r := w.heap.size + 1 + 1) (cs := #[.int .i64 st, .int .i64 sh, .int .i64 sd, .int .i64 sp, .int .i64 eu, .int .i64 es, .int .i64 eh, .int .i64 ea, .int .i64 en, .int .i64 fu, .int .i64 fs, .int .i64 fh, .int .i64 fa, .int .i64 fn, .slice (some ⟨g, 0, none⟩) n cb]) rfl rfl rfl (setRow_heap _ _ _ _ _ _ R8.out) Tryz.underlying57 rfl (by kernel_rfl) rfl ⟨_, n, cb, by rw [HE.out.1, HE.out.2.1]; rfl, .inr ⟨g, rfl, by rw [HE.out.2.2]; exact E.out.1.symm, by rw [HE.out.2.2]; exact M6.out.heap (setRow_other _ _ _ _ (by omega))⟩, below_setRow K8.out (by omega) _⟩
          | true =>
            obtain ⟨⟨a0, a1, a2, a3, a4, a5, a6, a7, a8, a9, a10, a11, a12, a13, a14⟩, _⟩ := blk15 Y8.out
            go_wp2_with fail
            clear a0 a1 a2 a3 a4 a5 a6 a7 a8 a9 a10 a11 a12 a13 a14
            clear hV8
            refine (cI.out _).mono ?_
            rintro e w9 ⟨rfl, hb⟩
            have M7 := Lib.hid (M6.out.below hb)
            clear M6
            have Y9 := Lib.hid (blk_on hb Y8.out)
            have X9 := Lib.hid (blk_on hb X8.out)
            have R9 := Lib.hid (blk_on hb R8.out)
            have O9 := Lib.hid (blk_on hb O8.out)
            have T9 := Lib.hid (blk_on hb T8.out)
            have U9 := Lib.hid (blk_on hb U8.out)
            have K9 := Lib.hid (K8.out.trans (hb.mono K8.out.size))
            clear hb Y8 X8 R8 O8 T8 U8 K8
            cases htx : tf.toList == (⟨#[101, 110, 100]⟩ ++ tn : ByteArray).toList
            ·
              have htx2 : (tf.toList != (⟨#[101, 110, 100]⟩ ++ tn : ByteArray).toList) = true := by rw [bne, htx]; rfl
              have HE := Lib.hid (HW3.out (by trivial) hst2.out (by trivial) (by trivial) htx)
              go_wp2_with (first | (refine wpList_load_row rfl 57 _ rfl (w2.heap.size) rfl 57 _ (0, 0) _ O9.out Tryz.underlying57 rfl (by kernel_rfl) ?_) | (refine wpList_store_row rfl 57 _ _ rfl (w.heap.size + 1 + 1) #[.int .i64 st, .int .i64 sh, .int .i64 sd, .int .i64 sp, .int .i64 eu, .int .i64 es, .int .i64 eh, .int .i64 ea, .int .i64 en, .int .i64 fu, .int .i64 fs, .int .i64 fh, .int .i64 fa, .int .i64 fn, .slice (some ⟨g, 0, none⟩) n cb] rfl rfl 57 _ R9.out (by kernel_rfl) rfl (by simp [Value.oneCell']) ?_))
              exact row_ret2 (r := w.heap.size + 1 + 1) (cs := #[.int .i64 st, .int .i64 sh, .int .i64 sd, .int .i64 sp, .int .i64 eu, .int .i64 es, .int .i64 eh, .int .i64 ea, .int .i64 en, .int .i64 fu, .int .i64 fs, .int .i64 fh, .int .i64 fa, .int .i64 fn, .slice (some ⟨g, 0, none⟩) n cb]) rfl rfl rfl (setRow_heap _ _ _ _ _ _ R9.out) Tryz.underlying57 rfl (by kernel_rfl) rfl ⟨_, n, cb, by rw [HE.out.1, HE.out.2.1]; rfl, .inr ⟨g, rfl, by rw [HE.out.2.2]; exact E.out.1.symm, by rw [HE.out.2.2]; exact M7.out.heap (setRow_other _ _ _ _ (by omega))⟩, below_setRow K9.out (by omega) _⟩
            ·
              have htx2 : (tf.toList != (⟨#[101, 110, 100]⟩ ++ tn : ByteArray).toList) = false := by rw [bne, htx]; rfl
              have HE := Lib.hid (HW4.out (by trivial) hst2.out (by trivial) (by trivial) htx)
              obtain ⟨⟨a0, a1, a2, a3, a4, a5, a6, a7, a8, a9, a10, a11, a12, a13, a14⟩, az0, az1, az2, az3, az4, az5, az6, az7, az8, az9, az10, az11, az12, az13, az14⟩ := blk15 O9.out
              obtain ⟨S10, qS10⟩ : ∃ W, setAll w9 w2.heap.size 0 [.int .i64 2] = W := ⟨_, rfl⟩
              have hS10 : (w9.setCell ⟨w2.heap.size, 0, none⟩ (.int .i64 2)) = S10 := qS10
              have Y10 : Hid (S10.heap[w.heap.size]? = some (.cells #[.int .i64 st, .int .i64 sh, .int .i64 sd, .int .i64 sp, .int .i64 eu, .int .i64 es, .int .i64 eh, .int .i64 ea, .int .i64 en, .int .i64 fu, .int .i64 fs, .int .i64 fh, .int .i64 fa, .int .i64 fn, .slice A n cap] 57)) := by rw [← qS10]; exact setAll_away (by omega) _ _ Y9.out
              have X10 : Hid (S10.heap[w.heap.size + 1]? = some (.cells #[.int .i64 xu, .int .i64 xs, .int .i64 xh, .int .i64 xa, .int .i64 xn, .string xt, .bool xp] 43)) := by rw [← qS10]; exact setAll_away (by omega) _ _ X9.out
              have R10 : Hid (S10.heap[w.heap.size + 1 + 1]? = some (.cells #[.int .i64 0, .int .i64 0, .int .i64 0, .int .i64 0, .int .i64 0, .int .i64 0, .int .i64 0, .int .i64 0, .int .i64 0, .int .i64 0, .int .i64 0, .int .i64 0, .int .i64 0, .int .i64 0, .slice none 0 0] 57)) := by rw [← qS10]; exact setAll_away (by omega) _ _ R9.out
              have O10 : Hid (S10.heap[w2.heap.size]? = some (.cells #[.int .i64 2, .int .i64 sh, .int .i64 sd, .int .i64 sp, .int .i64 eu, .int .i64 es, .int .i64 eh, .int .i64 ea, .int .i64 en, .int .i64 fu, .int .i64 fs, .int .i64 fh, .int .i64 fa, .int .i64 fn, .slice (some ⟨g, 0, none⟩) n cb] 57)) := by
                rw [← qS10]
                refine (setAll_blk (w := w9) (g := w2.heap.size) [.int .i64 2] 0 O9.out).trans ?_
                refine congrArg (fun z => some (Obj.cells z 57 (0, 0))) (Array.toList_inj.1 ?_)
                rw [overA_toList _ _ _ (by simp)]
                rfl
              have T10 : Hid (S10.heap[w5.heap.size]? = some (.cells #[.int .i64 ru, .int .i64 rs, .int .i64 rh, .int .i64 ra, .int .i64 rn] 54)) := by rw [← qS10]; exact setAll_away (by omega) _ _ T9.out
              have U10 : Hid (S10.heap[w7.heap.size]? = some (.cells #[.int .i64 qu, .int .i64 qs, .int .i64 qh, .int .i64 qa, .int .i64 qn] 54)) := by rw [← qS10]; exact setAll_away (by omega) _ _ U9.out
              have K10 : Hid (Below w.heap.size w S10) := by rw [← qS10]; exact setAll_below (g := w2.heap.size) (by omega) [.int .i64 2] 0 K9.out
              have zS10 : w9.heap.size = S10.heap.size := by rw [← qS10]; exact (setAll_size [.int .i64 2] 0 _).symm
              clear qS10 Y9 X9 R9 O9 T9 U9 K9
              have M8 : Hid (MadeE S10 w.heap.size 82 l g cb) := by rw [← hS10]; exact M7.out.heap (setAll_off (g := w2.heap.size) (by omega) [.int .i64 2] 0)
              clear M7
              obtain ⟨⟨b0, b1, b2, b3, b4, b5, b6, b7, b8, b9, b10, b11, b12, b13, b14⟩, bz0, bz1, bz2, bz3, bz4, bz5, bz6, bz7, bz8, bz9, bz10, bz11, bz12, bz13, bz14⟩ := blk15 O10.out
              obtain ⟨S11, qS11⟩ : ∃ W, setAll S10 w2.heap.size 4 [.int .i64 0, .int .i64 0, .int .i64 0, .int .i64 0, .int .i64 0] = W := ⟨_, rfl⟩
              have hS11 : (((((S10.setCell ⟨w2.heap.size, 4, none⟩ (.int .i64 0)).setCell ⟨w2.heap.size, 5, none⟩ (.int .i64 0)).setCell ⟨w2.heap.size, 6, none⟩ (.int .i64 0)).setCell ⟨w2.heap.size, 7, none⟩ (.int .i64 0)).setCell ⟨w2.heap.size, 8, none⟩ (.int .i64 0)) = S11 := qS11
              have Y11 : Hid (S11.heap[w.heap.size]? = some (.cells #[.int .i64 st, .int .i64 sh, .int .i64 sd, .int .i64 sp, .int .i64 eu, .int .i64 es, .int .i64 eh, .int .i64 ea, .int .i64 en, .int .i64 fu, .int .i64 fs, .int .i64 fh, .int .i64 fa, .int .i64 fn, .slice A n cap] 57)) := by rw [← qS11]; exact setAll_away (by omega) _ _ Y10.out
              have X11 : Hid (S11.heap[w.heap.size + 1]? = some (.cells #[.int .i64 xu, .int .i64 xs, .int .i64 xh, .int .i64 xa, .int .i64 xn, .string xt, .bool xp] 43)) := by rw [← qS11]; exact setAll_away (by omega) _ _ X10.out
              have R11 : Hid (S11.heap[w.heap.size + 1 + 1]? = some (.cells #[.int .i64 0, .int .i64 0, .int .i64 0, .int .i64 0, .int .i64 0, .int .i64 0, .int .i64 0, .int .i64 0, .int .i64 0, .int .i64 0, .int .i64 0, .int .i64 0, .int .i64 0, .int .i64 0, .slice none 0 0] 57)) := by rw [← qS11]; exact setAll_away (by omega) _ _ R10.out
              have O11 : Hid (S11.heap[w2.heap.size]? = some (.cells #[.int .i64 2, .int .i64 sh, .int .i64 sd, .int .i64 sp, .int .i64 0, .int .i64 0, .int .i64 0, .int .i64 0, .int .i64 0, .int .i64 fu, .int .i64 fs, .int .i64 fh, .int .i64 fa, .int .i64 fn, .slice (some ⟨g, 0, none⟩) n cb] 57)) := by
                rw [← qS11]
                refine (setAll_blk (w := S10) (g := w2.heap.size) [.int .i64 0, .int .i64 0, .int .i64 0, .int .i64 0, .int .i64 0] 4 O10.out).trans ?_
                refine congrArg (fun z => some (Obj.cells z 57 (0, 0))) (Array.toList_inj.1 ?_)
                rw [overA_toList _ _ _ (by simp)]
                rfl
              have T11 : Hid (S11.heap[w5.heap.size]? = some (.cells #[.int .i64 ru, .int .i64 rs, .int .i64 rh, .int .i64 ra, .int .i64 rn] 54)) := by rw [← qS11]; exact setAll_away (by omega) _ _ T10.out
              have U11 : Hid (S11.heap[w7.heap.size]? = some (.cells #[.int .i64 qu, .int .i64 qs, .int .i64 qh, .int .i64 qa, .int .i64 qn] 54)) := by rw [← qS11]; exact setAll_away (by omega) _ _ U10.out
              have K11 : Hid (Below w.heap.size w S11) := by rw [← qS11]; exact setAll_below (g := w2.heap.size) (by omega) [.int .i64 0, .int .i64 0, .int .i64 0, .int .i64 0, .int .i64 0] 4 K10.out
              have zS11 : S10.heap.size = S11.heap.size := by rw [← qS11]; exact (setAll_size [.int .i64 0, .int .i64 0, .int .i64 0, .int .i64 0, .int .i64 0] 4 _).symm
              clear qS11 Y10 X10 R10 O10 T10 U10 K10
              have M9 : Hid (MadeE S11 w.heap.size 82 l g cb) := by rw [← hS11]; exact M8.out.heap (setAll_off (g := w2.heap.size) (by omega) [.int .i64 0, .int .i64 0, .int .i64 0, .int .i64 0, .int .i64 0] 4)
              clear M8
              obtain ⟨⟨c0, c1, c2, c3, c4, c5, c6, c7, c8, c9, c10, c11, c12, c13, c14⟩, cz0, cz1, cz2, cz3, cz4, cz5, cz6, cz7, cz8, cz9, cz10, cz11, cz12, cz13, cz14⟩ := blk15 O11.out
              obtain ⟨⟨d0, d1, d2, d3, d4⟩, _⟩ := blk5 U11.out
              obtain ⟨S12, qS12⟩ : ∃ W, setAll S11 w2.heap.size 9 [.int .i64 qu, .int .i64 qs, .int .i64 qh, .int .i64 qa, .int .i64 qn] = W := ⟨_, rfl⟩
              have hS12 : (((((S11.setCell ⟨w2.heap.size, 9, none⟩ (.int .i64 qu)).setCell ⟨w2.heap.size, 10, none⟩ (.int .i64 qs)).setCell ⟨w2.heap.size, 11, none⟩ (.int .i64 qh)).setCell ⟨w2.heap.size, 12, none⟩ (.int .i64 qa)).setCell ⟨w2.heap.size, 13, none⟩ (.int .i64 qn)) = S12 := qS12
              have Y12 : Hid (S12.heap[w.heap.size]? = some (.cells #[.int .i64 st, .int .i64 sh, .int .i64 sd, .int .i64 sp, .int .i64 eu, .int .i64 es, .int .i64 eh, .int .i64 ea, .int .i64 en, .int .i64 fu, .int .i64 fs, .int .i64 fh, .int .i64 fa, .int .i64 fn, .slice A n cap] 57)) := by rw [← qS12]; exact setAll_away (by omega) _ _ Y11.out
              have X12 : Hid (S12.heap[w.heap.size + 1]? = some (.cells #[.int .i64 xu, .int .i64 xs, .int .i64 xh, .int .i64 xa, .int .i64 xn, .string xt, .bool xp] 43)) := by rw [← qS12]; exact setAll_away (by omega) _ _ X11.out
              have R12 : Hid (S12.heap[w.heap.size + 1 + 1]? = some (.cells #[.int .i64 0, .int .i64 0, .int .i64 0, .int .i64 0, .int .i64 0, .int .i64 0, .int .i64 0, .int .i64 0, .int .i64 0, .int .i64 0, .int .i64 0, .int .i64 0, .int .i64 0, .int .i64 0, .slice none 0 0] 57)) := by rw [← qS12]; exact setAll_away (by omega) _ _ R11.out
              have O12 : Hid (S12.heap[w2.heap.size]? = some (.cells #[.int .i64 2, .int .i64 sh, .int .i64 sd, .int .i64 sp, .int .i64 0, .int .i64 0, .int .i64 0, .int .i64 0, .int .i64 0, .int .i64 qu, .int .i64 qs, .int .i64 qh, .int .i64 qa, .int .i64 qn, .slice (some ⟨g, 0, none⟩) n cb] 57)) := by
                rw [← qS12]
                refine (setAll_blk (w := S11) (g := w2.heap.size) [.int .i64 qu, .int .i64 qs, .int .i64 qh, .int .i64 qa, .int .i64 qn] 9 O11.out).trans ?_
                refine congrArg (fun z => some (Obj.cells z 57 (0, 0))) (Array.toList_inj.1 ?_)
                rw [overA_toList _ _ _ (by simp)]
                rfl
              have T12 : Hid (S12.heap[w5.heap.size]? = some (.cells #[.int .i64 ru, .int .i64 rs, .int .i64 rh, .int .i64 ra, .int .i64 rn] 54)) := by rw [← qS12]; exact setAll_away (by omega) _ _ T11.out
              have U12 : Hid (S12.heap[w7.heap.size]? = some (.cells #[.int .i64 qu, .int .i64 qs, .int .i64 qh, .int .i64 qa, .int .i64 qn] 54)) := by rw [← qS12]; exact setAll_away (by omega) _ _ U11.out
              have K12 : Hid (Below w.heap.size w S12) := by rw [← qS12]; exact setAll_below (g := w2.heap.size) (by omega) [.int .i64 qu, .int .i64 qs, .int .i64 qh, .int .i64 qa, .int .i64 qn] 9 K11.out
              have zS12 : S11.heap.size = S12.heap.size := by rw [← qS12]; exact (setAll_size [.int .i64 qu, .int .i64 qs, .int .i64 qh, .int .i64 qa, .int .i64 qn] 9 _).symm
              clear qS12 Y11 X11 R11 O11 T11 U11 K11
              have M10 : Hid (MadeE S12 w.heap.size 82 l g cb) := by rw [← hS12]; exact M9.out.heap (setAll_off (g := w2.heap.size) (by omega) [.int .i64 qu, .int .i64 qs, .int .i64 qh, .int .i64 qa, .int .i64 qn] 9)
              clear M9
              go_upto_region 19 with fail
              clear a0 a1 a2 a3 a4 a5 a6 a7 a8 a9 a10 a11 a12 a13 a14 az0 az1 az2 az3 az4 az5 az6 az7 az8 az9 az10 az11 az12 az13 az14
              clear b0 b1 b2 b3 b4 b5 b6 b7 b8 b9 b10 b11 b12 b13 b14 bz0 bz1 bz2 bz3 bz4 bz5 bz6 bz7 bz8 bz9 bz10 bz11 bz12 bz13 bz14
              clear c0 c1 c2 c3 c4 c5 c6 c7 c8 c9 c10 c11 c12 c13 c14 cz0 cz1 cz2 cz3 cz4 cz5 cz6 cz7 cz8 cz9 cz10 cz11 cz12 cz13 cz14
              clear d0 d1 d2 d3 d4
              try rw [hS12]
              clear hS10 hS11 hS12
              go_wp2_with (first | (refine wpList_load_row rfl 57 _ rfl (w2.heap.size) rfl 57 _ (0, 0) _ O12.out Tryz.underlying57 rfl (by kernel_rfl) ?_) | (refine wpList_store_row rfl 57 _ _ rfl (w.heap.size + 1 + 1) #[.int .i64 2, .int .i64 sh, .int .i64 sd, .int .i64 sp, .int .i64 0, .int .i64 0, .int .i64 0, .int .i64 0, .int .i64 0, .int .i64 qu, .int .i64 qs, .int .i64 qh, .int .i64 qa, .int .i64 qn, .slice (some ⟨g, 0, none⟩) n cb] rfl rfl 57 _ R12.out (by kernel_rfl) rfl (by simp [Value.oneCell']) ?_))
              exact row_ret2 (r := w.heap.size + 1 + 1) (cs := #[.int .i64 2, .int .i64 sh, .int .i64 sd, .int .i64 sp, .int .i64 0, .int .i64 0, .int .i64 0, .int .i64 0, .int .i64 0, .int .i64 qu, .int .i64 qs, .int .i64 qh, .int .i64 qa, .int .i64 qn, .slice (some ⟨g, 0, none⟩) n cb]) rfl rfl rfl (setRow_heap _ _ _ _ _ _ R12.out) Tryz.underlying57 rfl (by kernel_rfl) rfl ⟨_, n, cb, by rw [HE.out.1, HE.out.2.1]; rfl, .inr ⟨g, rfl, by rw [HE.out.2.2]; exact E.out.1.symm, by rw [HE.out.2.2]; exact M10.out.heap (setRow_other _ _ _ _ (by omega))⟩, below_setRow K12.out (by omega) _⟩
      ·
        have hst' : (st == 1) = false := bne_int hst
        have hst2 := Lib.hid hst
        clear hst
        obtain ⟨⟨a0, a1, a2, a3, a4, a5, a6, a7, a8, a9, a10, a11, a12, a13, a14⟩, _⟩ := blk15 Y4.out
        obtain ⟨⟨x0, x1, x2, x3, x4, x5, x6⟩, _⟩ := blk7 X4.out
        go_wp2_with (refine wpList_store_row rfl 57 _ _ rfl (w2.heap.size) #[.int .i64 st, .int .i64 sh, .int .i64 sd, .int .i64 sp, .int .i64 eu, .int .i64 es, .int .i64 eh, .int .i64 ea, .int .i64 en, .int .i64 fu, .int .i64 fs, .int .i64 fh, .int .i64 fa, .int .i64 fn, .slice (some ⟨g, 0, none⟩) n cb] rfl rfl 57 _ O3.out (by kernel_rfl) rfl (by simp [Value.oneCell']) ?_)
        clear a0 a1 a2 a3 a4 a5 a6 a7 a8 a9 a10 a11 a12 a13 a14
        clear x0 x1 x2 x3 x4 x5 x6
        have M2 : Hid (MadeE (V3.setRow w2.heap.size #[.int .i64 st, .int .i64 sh, .int .i64 sd, .int .i64 sp, .int .i64 eu, .int .i64 es, .int .i64 eh, .int .i64 ea, .int .i64 en, .int .i64 fu, .int .i64 fs, .int .i64 fh, .int .i64 fa, .int .i64 fn, .slice (some ⟨g, 0, none⟩) n cb]) w.heap.size 82 l g cb) := Lib.hid (M1.out.heap (setRow_other _ _ _ _ (by omega)))
        clear M1
        clear hV3 Y3 X3 R3 O3 K3
        generalize V3.setRow w2.heap.size #[.int .i64 st, .int .i64 sh, .int .i64 sd, .int .i64 sp, .int .i64 eu, .int .i64 es, .int .i64 eh, .int .i64 ea, .int .i64 en, .int .i64 fu, .int .i64 fs, .int .i64 fh, .int .i64 fa, .int .i64 fn, .slice (some ⟨g, 0, none⟩) n cb] = S4 at Y4 X4 R4 O4 K4 M2 ⊢
        refine (cTf.out _).mono ?_
        rintro e w5 ⟨rfl, hb⟩
        have M3 := Lib.hid (M2.out.below hb)
        clear M2
        have Y5 := Lib.hid (blk_on hb Y4.out)
        have X5 := Lib.hid (blk_on hb X4.out)
        have R5 := Lib.hid (blk_on hb R4.out)
        have O5 := Lib.hid (blk_on hb O4.out)
        have K5 := Lib.hid (K4.out.trans (hb.mono K4.out.size))
        clear hb Y4 X4 R4 O4 K4
        obtain ⟨V6, hV6⟩ : ∃ V, w5.alloc (.cells #[.int .i64 qu, .int .i64 qs, .int .i64 qh, .int .i64 qa, .int .i64 qn] 54) = V := ⟨_, rfl⟩
        have ltV6Y : w.heap.size < w5.heap.size := blk_in Y5.out
        have ltV6X : w.heap.size + 1 < w5.heap.size := blk_in X5.out
        have ltV6R : w.heap.size + 1 + 1 < w5.heap.size := blk_in R5.out
        have ltV6O : w2.heap.size < w5.heap.size := blk_in O5.out
        have Y6 : Hid (V6.heap[w.heap.size]? = some (.cells #[.int .i64 st, .int .i64 sh, .int .i64 sd, .int .i64 sp, .int .i64 eu, .int .i64 es, .int .i64 eh, .int .i64 ea, .int .i64 en, .int .i64 fu, .int .i64 fs, .int .i64 fh, .int .i64 fa, .int .i64 fn, .slice A n cap] 57)) := by rw [← hV6]; exact alloc_blk Y5.out
        have X6 : Hid (V6.heap[w.heap.size + 1]? = some (.cells #[.int .i64 xu, .int .i64 xs, .int .i64 xh, .int .i64 xa, .int .i64 xn, .string xt, .bool xp] 43)) := by rw [← hV6]; exact alloc_blk X5.out
        have R6 : Hid (V6.heap[w.heap.size + 1 + 1]? = some (.cells #[.int .i64 0, .int .i64 0, .int .i64 0, .int .i64 0, .int .i64 0, .int .i64 0, .int .i64 0, .int .i64 0, .int .i64 0, .int .i64 0, .int .i64 0, .int .i64 0, .int .i64 0, .int .i64 0, .slice none 0 0] 57)) := by rw [← hV6]; exact alloc_blk R5.out
        have O6 : Hid (V6.heap[w2.heap.size]? = some (.cells #[.int .i64 st, .int .i64 sh, .int .i64 sd, .int .i64 sp, .int .i64 eu, .int .i64 es, .int .i64 eh, .int .i64 ea, .int .i64 en, .int .i64 fu, .int .i64 fs, .int .i64 fh, .int .i64 fa, .int .i64 fn, .slice (some ⟨g, 0, none⟩) n cb] 57)) := by rw [← hV6]; exact alloc_blk O5.out
        have hb : Below w5.heap.size w5 V6 := by rw [← hV6]; exact (Below.refl _ w5).alloc (Nat.le_refl _) _
        have K6 := Lib.hid (K5.out.trans (hb.mono K5.out.size))
        have U6 : Hid (V6.heap[w5.heap.size]? = some (.cells #[.int .i64 qu, .int .i64 qs, .int .i64 qh, .int .i64 qa, .int .i64 qn] 54)) := by rw [← hV6]; exact heap1 w5 _
        have lbV6 : w.heap.size ≤ w5.heap.size := K5.out.size
        clear hb Y5 X5 R5 O5 K5
        have M4 : Hid (MadeE V6 w.heap.size 82 l g cb) := by rw [← hV6]; exact M3.out.below ((Below.refl _ _).alloc (Nat.le_refl _) _)
        clear M3
        cases bf with
        | false =>
          have HE := Lib.hid (HO0.out (by trivial) hst2.out (.inl (by trivial)))
          go_wp2_with (first | (refine wpList_load_row rfl 57 _ rfl (w2.heap.size) rfl 57 _ (0, 0) _ O6.out Tryz.underlying57 rfl (by kernel_rfl) ?_) | (refine wpList_store_row rfl 57 _ _ rfl (w.heap.size + 1 + 1) #[.int .i64 st, .int .i64 sh, .int .i64 sd, .int .i64 sp, .int .i64 eu, .int .i64 es, .int .i64 eh, .int .i64 ea, .int .i64 en, .int .i64 fu, .int .i64 fs, .int .i64 fh, .int .i64 fa, .int .i64 fn, .slice (some ⟨g, 0, none⟩) n cb] rfl rfl 57 _ R6.out (by kernel_rfl) rfl (by simp [Value.oneCell']) ?_))
          exact row_ret2 (r := w.heap.size + 1 + 1) (cs := #[.int .i64 st, .int .i64 sh, .int .i64 sd, .int .i64 sp, .int .i64 eu, .int .i64 es, .int .i64 eh, .int .i64 ea, .int .i64 en, .int .i64 fu, .int .i64 fs, .int .i64 fh, .int .i64 fa, .int .i64 fn, .slice (some ⟨g, 0, none⟩) n cb]) rfl rfl rfl (setRow_heap _ _ _ _ _ _ R6.out) Tryz.underlying57 rfl (by kernel_rfl) rfl ⟨_, n, cb, by rw [HE.out.1, HE.out.2.1]; rfl, .inr ⟨g, rfl, by rw [HE.out.2.2]; exact E.out.1.symm, by rw [HE.out.2.2]; exact M4.out.heap (setRow_other _ _ _ _ (by omega))⟩, below_setRow K6.out (by omega) _⟩
        | true =>
          obtain ⟨⟨c0, c1, c2, c3, c4⟩, _⟩ := blk5 U6.out
          obtain ⟨⟨d0, d1, d2, d3, d4, d5, d6, d7, d8, d9, d10, d11, d12, d13, d14⟩, dz0, dz1, dz2, dz3, dz4, dz5, dz6, dz7, dz8, dz9, dz10, dz11, dz12, dz13, dz14⟩ := blk15 O6.out
          obtain ⟨S7, qS7⟩ : ∃ W, setAll V6 w2.heap.size 9 [.int .i64 qu, .int .i64 qs, .int .i64 qh, .int .i64 qa, .int .i64 qn] = W := ⟨_, rfl⟩
          have hS7 : (((((V6.setCell ⟨w2.heap.size, 9, none⟩ (.int .i64 qu)).setCell ⟨w2.heap.size, 10, none⟩ (.int .i64 qs)).setCell ⟨w2.heap.size, 11, none⟩ (.int .i64 qh)).setCell ⟨w2.heap.size, 12, none⟩ (.int .i64 qa)).setCell ⟨w2.heap.size, 13, none⟩ (.int .i64 qn)) = S7 := qS7
          have Y7 : Hid (S7.heap[w.heap.size]? = some (.cells #[.int .i64 st, .int .i64 sh, .int .i64 sd, .int .i64 sp, .int .i64 eu, .int .i64 es, .int .i64 eh, .int .i64 ea, .int .i64 en, .int .i64 fu, .int .i64 fs, .int .i64 fh, .int .i64 fa, .int .i64 fn, .slice A n cap] 57)) := by rw [← qS7]; exact setAll_away (by omega) _ _ Y6.out
          have X7 : Hid (S7.heap[w.heap.size + 1]? = some (.cells #[.int .i64 xu, .int .i64 xs, .int .i64 xh, .int .i64 xa, .int .i64 xn, .string xt, .bool xp] 43)) := by rw [← qS7]; exact setAll_away (by omega) _ _ X6.out
          have R7 : Hid (S7.heap[w.heap.size + 1 + 1]? = some (.cells #[.int .i64 0, .int .i64 0, .int .i64 0, .int .i64 0, .int .i64 0, .int .i64 0, .int .i64 0, .int .i64 0, .int .i64 0, .int .i64 0, .int .i64 0, .int .i64 0, .int .i64 0, .int .i64 0, .slice none 0 0] 57)) := by rw [← qS7]; exact setAll_away (by omega) _ _ R6.out
          have O7 : Hid (S7.heap[w2.heap.size]? = some (.cells #[.int .i64 st, .int .i64 sh, .int .i64 sd, .int .i64 sp, .int .i64 eu, .int .i64 es, .int .i64 eh, .int .i64 ea, .int .i64 en, .int .i64 qu, .int .i64 qs, .int .i64 qh, .int .i64 qa, .int .i64 qn, .slice (some ⟨g, 0, none⟩) n cb] 57)) := by
            rw [← qS7]
            refine (setAll_blk (w := V6) (g := w2.heap.size) [.int .i64 qu, .int .i64 qs, .int .i64 qh, .int .i64 qa, .int .i64 qn] 9 O6.out).trans ?_
            refine congrArg (fun z => some (Obj.cells z 57 (0, 0))) (Array.toList_inj.1 ?_)
            rw [overA_toList _ _ _ (by simp)]
            rfl
          have U7 : Hid (S7.heap[w5.heap.size]? = some (.cells #[.int .i64 qu, .int .i64 qs, .int .i64 qh, .int .i64 qa, .int .i64 qn] 54)) := by rw [← qS7]; exact setAll_away (by omega) _ _ U6.out
          have K7 : Hid (Below w.heap.size w S7) := by rw [← qS7]; exact setAll_below (g := w2.heap.size) (by omega) [.int .i64 qu, .int .i64 qs, .int .i64 qh, .int .i64 qa, .int .i64 qn] 9 K6.out
          have zS7 : V6.heap.size = S7.heap.size := by rw [← qS7]; exact (setAll_size [.int .i64 qu, .int .i64 qs, .int .i64 qh, .int .i64 qa, .int .i64 qn] 9 _).symm
          clear qS7 Y6 X6 R6 O6 U6 K6
          have M5 : Hid (MadeE S7 w.heap.size 82 l g cb) := by rw [← hS7]; exact M4.out.heap (setAll_off (g := w2.heap.size) (by omega) [.int .i64 qu, .int .i64 qs, .int .i64 qh, .int .i64 qa, .int .i64 qn] 9)
          clear M4
          go_upto_region 24 with fail
          clear c0 c1 c2 c3 c4
          clear d0 d1 d2 d3 d4 d5 d6 d7 d8 d9 d10 d11 d12 d13 d14 dz0 dz1 dz2 dz3 dz4 dz5 dz6 dz7 dz8 dz9 dz10 dz11 dz12 dz13 dz14
          try rw [hS7]
          clear hS7 hV6
          have e9 : (l ++ [(⟨tf, false⟩ : WordV)]).length = n + 1 := by rw [List.length_append, E.out.1]; rfl
          have hbk := M5.out.base
          have hOw := blk_in O7.out
          have hRw := blk_in R7.out
          have hKs := K7.out.size
          obtain ⟨⟨a0, a1, a2, a3, a4, a5, a6, a7, a8, a9, a10, a11, a12, a13, a14⟩, _⟩ := blk15 O7.out
          go_upto_region 25 with (at_builtin; refine wpList_append_own _ rfl _ _ 55 rfl w.heap.size 82 i0 WordV.zero.val 2 by0 Tryz.underlying55 hi hz0 hz1 hz2 rfl (by decide) _ n (l.flatMap Cells.cells) rfl (by have h1 := M5.out.own; rw [E.out.1] at h1; exact h1.alloc _) ⟨S7.heap.size, 0, none⟩ 1 1 ([(⟨tf, false⟩ : WordV)].flatMap Cells.cells) rfl rfl (cells_new S7 ([.string tf, .bool false]) _) flat_one (by unfold maxLen; omega) (Nat.le_trans (Nat.mul_le_mul (by omega : n + 1 ≤ 1048577) hby) (by decide)) (by simp; omega) ?_; intro v' w3 hown' hgrow hiff; have h9 := made_app (l := l) (l2 := [(⟨tf, false⟩ : WordV)]) (n := n) (m := 1) (gb := g) (cb := cb) hown' E.out.1.symm rfl hiff; obtain ⟨gb', cb', rfl, hM'⟩ := h9; have HM' : Hid (MadeE w3 w.heap.size 82 (l ++ [(⟨tf, false⟩ : WordV)]) gb' cb') := hM'; have HGR := Lib.hid hgrow; clear hown' hgrow hM' hiff; have O9 : Hid (w3.heap[w2.heap.size]? = some (.cells #[.int .i64 st, .int .i64 sh, .int .i64 sd, .int .i64 sp, .int .i64 eu, .int .i64 es, .int .i64 eh, .int .i64 ea, .int .i64 en, .int .i64 qu, .int .i64 qs, .int .i64 qh, .int .i64 qa, .int .i64 qn, .slice (some ⟨g, 0, none⟩) n cb] 57)) := blk_off HGR.out (alloc_blk O7.out) (show w2.heap.size ≠ g by omega); obtain ⟨⟨b0, b1, b2, b3, b4, b5, b6, b7, b8, b9, b10, b11, b12, b13, b14⟩, bz0, bz1, bz2, bz3, bz4, bz5, bz6, bz7, bz8, bz9, bz10, bz11, bz12, bz13, bz14⟩ := blk15 O9.out; rw [e9])
          clear a0 a1 a2 a3 a4 a5 a6 a7 a8 a9 a10 a11 a12 a13 a14
          clear b0 b1 b2 b3 b4 b5 b6 b7 b8 b9 b10 b11 b12 b13 b14 bz0 bz1 bz2 bz3 bz4 bz5 bz6 bz7 bz8 bz9 bz10 bz11 bz12 bz13 bz14
          have R8 : Hid (w3.heap[w.heap.size + 1 + 1]? = some (.cells #[.int .i64 0, .int .i64 0, .int .i64 0, .int .i64 0, .int .i64 0, .int .i64 0, .int .i64 0, .int .i64 0, .int .i64 0, .int .i64 0, .int .i64 0, .int .i64 0, .int .i64 0, .int .i64 0, .slice none 0 0] 57)) := blk_off HGR.out (alloc_blk R7.out) (show w.heap.size + 1 + 1 ≠ g by omega)
          have K8 : Hid (Below w.heap.size w w3) := below_off (K7.out.alloc K7.out.size _) HGR.out ⟨show w.heap.size ≤ g by omega, by rw [World.size_alloc]; omega⟩
          have O8 := O9
          clear O9
          clear Y7 X7 R7 O7 U7 K7 M5
          have hb9 := HM'.out.base
          have hnO := HM'.out.not_blk O8.out (by decide)
          have hnR := HM'.out.not_blk R8.out (by decide)
          obtain ⟨S8, qS8⟩ : ∃ W, setAll w3 w2.heap.size 14 [.slice (some ⟨gb', 0, none⟩) (n + 1) cb'] = W := ⟨_, rfl⟩
          have hS8 : (w3.setCell ⟨w2.heap.size, 14, none⟩ (.slice (some ⟨gb', 0, none⟩) (n + 1) cb')) = S8 := qS8
          have R9 : Hid (S8.heap[w.heap.size + 1 + 1]? = some (.cells #[.int .i64 0, .int .i64 0, .int .i64 0, .int .i64 0, .int .i64 0, .int .i64 0, .int .i64 0, .int .i64 0, .int .i64 0, .int .i64 0, .int .i64 0, .int .i64 0, .int .i64 0, .int .i64 0, .slice none 0 0] 57)) := by rw [← qS8]; exact setAll_away (by omega) _ _ R8.out
          have O9 : Hid (S8.heap[w2.heap.size]? = some (.cells #[.int .i64 st, .int .i64 sh, .int .i64 sd, .int .i64 sp, .int .i64 eu, .int .i64 es, .int .i64 eh, .int .i64 ea, .int .i64 en, .int .i64 qu, .int .i64 qs, .int .i64 qh, .int .i64 qa, .int .i64 qn, .slice (some ⟨gb', 0, none⟩) (n + 1) cb'] 57)) := by
            rw [← qS8]
            refine (setAll_blk (w := w3) (g := w2.heap.size) [.slice (some ⟨gb', 0, none⟩) (n + 1) cb'] 14 O8.out).trans ?_
            refine congrArg (fun z => some (Obj.cells z 57 (0, 0))) (Array.toList_inj.1 ?_)
            rw [overA_toList _ _ _ (by simp)]
            rfl
          have K9 : Hid (Below w.heap.size w S8) := by rw [← qS8]; exact setAll_below (g := w2.heap.size) (by omega) [.slice (some ⟨gb', 0, none⟩) (n + 1) cb'] 14 K8.out
          have zS8 : w3.heap.size = S8.heap.size := by rw [← qS8]; exact (setAll_size [.slice (some ⟨gb', 0, none⟩) (n + 1) cb'] 14 _).symm
          clear qS8 R8 O8 K8
          have MF : Hid (MadeE S8 w.heap.size 82 (l ++ [(⟨tf, false⟩ : WordV)]) gb' cb') := by
            rw [← hS8]
            exact HM'.out.heap (setAll_off (g := w2.heap.size) (by omega) [.slice (some ⟨gb', 0, none⟩) (n + 1) cb'] 14)
          try rw [hS8]
          clear hS8
          have HE := Lib.hid (HO1.out (by trivial) hst2.out (by trivial) hr2)
          go_wp2_with (first | (refine wpList_load_row rfl 57 _ rfl (w2.heap.size) rfl 57 _ (0, 0) _ O9.out Tryz.underlying57 rfl (by kernel_rfl) ?_) | (refine wpList_store_row rfl 57 _ _ rfl (w.heap.size + 1 + 1) #[.int .i64 st, .int .i64 sh, .int .i64 sd, .int .i64 sp, .int .i64 eu, .int .i64 es, .int .i64 eh, .int .i64 ea, .int .i64 en, .int .i64 qu, .int .i64 qs, .int .i64 qh, .int .i64 qa, .int .i64 qn, .slice (some ⟨gb', 0, none⟩) (n + 1) cb'] rfl rfl 57 _ R9.out (by kernel_rfl) rfl (by simp [Value.oneCell']) ?_))
          exact row_ret2 (r := w.heap.size + 1 + 1) (cs := #[.int .i64 st, .int .i64 sh, .int .i64 sd, .int .i64 sp, .int .i64 eu, .int .i64 es, .int .i64 eh, .int .i64 ea, .int .i64 en, .int .i64 qu, .int .i64 qs, .int .i64 qh, .int .i64 qa, .int .i64 qn, .slice (some ⟨gb', 0, none⟩) (n + 1) cb']) rfl rfl rfl (setRow_heap _ _ _ _ _ _ R9.out) Tryz.underlying57 rfl (by kernel_rfl) rfl ⟨_, n + 1, cb', by rw [HE.out.1, HE.out.2.1]; rfl, .inr ⟨gb', rfl, by rw [HE.out.2.2]; exact e9.symm, by rw [HE.out.2.2]; exact MF.out.heap (setRow_other _ _ _ _ (by omega))⟩, below_setRow K9.out (by omega) _⟩
    ·
      have hr1 : decide ((n : Int) < 60) = false := by exact decide_eq_false (by omega)
      have hr2 : ¬ (n : Int) < 60 := by omega
      clear hroom
      by_cases hst : st = 1
      ·
        have hst' : (st == 1) = true := beq_int hst
        have hst2 := Lib.hid hst
        clear hst
        obtain ⟨⟨a0, a1, a2, a3, a4, a5, a6, a7, a8, a9, a10, a11, a12, a13, a14⟩, _⟩ := blk15 Y4.out
        obtain ⟨⟨x0, x1, x2, x3, x4, x5, x6⟩, _⟩ := blk7 X4.out
        go_wp2_with (refine wpList_store_row rfl 57 _ _ rfl (w2.heap.size) #[.int .i64 st, .int .i64 sh, .int .i64 sd, .int .i64 sp, .int .i64 eu, .int .i64 es, .int .i64 eh, .int .i64 ea, .int .i64 en, .int .i64 fu, .int .i64 fs, .int .i64 fh, .int .i64 fa, .int .i64 fn, .slice (some ⟨g, 0, none⟩) n cb] rfl rfl 57 _ O3.out (by kernel_rfl) rfl (by simp [Value.oneCell']) ?_)
        clear a0 a1 a2 a3 a4 a5 a6 a7 a8 a9 a10 a11 a12 a13 a14
        clear x0 x1 x2 x3 x4 x5 x6
        have M2 : Hid (MadeE (V3.setRow w2.heap.size #[.int .i64 st, .int .i64 sh, .int .i64 sd, .int .i64 sp, .int .i64 eu, .int .i64 es, .int .i64 eh, .int .i64 ea, .int .i64 en, .int .i64 fu, .int .i64 fs, .int .i64 fh, .int .i64 fa, .int .i64 fn, .slice (some ⟨g, 0, none⟩) n cb]) w.heap.size 82 l g cb) := Lib.hid (M1.out.heap (setRow_other _ _ _ _ (by omega)))
        clear M1
        clear hV3 Y3 X3 R3 O3 K3
        generalize V3.setRow w2.heap.size #[.int .i64 st, .int .i64 sh, .int .i64 sd, .int .i64 sp, .int .i64 eu, .int .i64 es, .int .i64 eh, .int .i64 ea, .int .i64 en, .int .i64 fu, .int .i64 fs, .int .i64 fh, .int .i64 fa, .int .i64 fn, .slice (some ⟨g, 0, none⟩) n cb] = S4 at Y4 X4 R4 O4 K4 M2 ⊢
        refine (cTe.out _).mono ?_
        rintro e w5 ⟨rfl, hb⟩
        have M3 := Lib.hid (M2.out.below hb)
        clear M2
        have Y5 := Lib.hid (blk_on hb Y4.out)
        have X5 := Lib.hid (blk_on hb X4.out)
        have R5 := Lib.hid (blk_on hb R4.out)
        have O5 := Lib.hid (blk_on hb O4.out)
        have K5 := Lib.hid (K4.out.trans (hb.mono K4.out.size))
        clear hb Y4 X4 R4 O4 K4
        obtain ⟨V6, hV6⟩ : ∃ V, w5.alloc (.cells #[.int .i64 ru, .int .i64 rs, .int .i64 rh, .int .i64 ra, .int .i64 rn] 54) = V := ⟨_, rfl⟩
        have ltV6Y : w.heap.size < w5.heap.size := blk_in Y5.out
        have ltV6X : w.heap.size + 1 < w5.heap.size := blk_in X5.out
        have ltV6R : w.heap.size + 1 + 1 < w5.heap.size := blk_in R5.out
        have ltV6O : w2.heap.size < w5.heap.size := blk_in O5.out
        have Y6 : Hid (V6.heap[w.heap.size]? = some (.cells #[.int .i64 st, .int .i64 sh, .int .i64 sd, .int .i64 sp, .int .i64 eu, .int .i64 es, .int .i64 eh, .int .i64 ea, .int .i64 en, .int .i64 fu, .int .i64 fs, .int .i64 fh, .int .i64 fa, .int .i64 fn, .slice A n cap] 57)) := by rw [← hV6]; exact alloc_blk Y5.out
        have X6 : Hid (V6.heap[w.heap.size + 1]? = some (.cells #[.int .i64 xu, .int .i64 xs, .int .i64 xh, .int .i64 xa, .int .i64 xn, .string xt, .bool xp] 43)) := by rw [← hV6]; exact alloc_blk X5.out
        have R6 : Hid (V6.heap[w.heap.size + 1 + 1]? = some (.cells #[.int .i64 0, .int .i64 0, .int .i64 0, .int .i64 0, .int .i64 0, .int .i64 0, .int .i64 0, .int .i64 0, .int .i64 0, .int .i64 0, .int .i64 0, .int .i64 0, .int .i64 0, .int .i64 0, .slice none 0 0] 57)) := by rw [← hV6]; exact alloc_blk R5.out
        have O6 : Hid (V6.heap[w2.heap.size]? = some (.cells #[.int .i64 st, .int .i64 sh, .int .i64 sd, .int .i64 sp, .int .i64 eu, .int .i64 es, .int .i64 eh, .int .i64 ea, .int .i64 en, .int .i64 fu, .int .i64 fs, .int .i64 fh, .int .i64 fa, .int .i64 fn, .slice (some ⟨g, 0, none⟩) n cb] 57)) := by rw [← hV6]; exact alloc_blk O5.out
        have hb : Below w5.heap.size w5 V6 := by rw [← hV6]; exact (Below.refl _ w5).alloc (Nat.le_refl _) _
        have K6 := Lib.hid (K5.out.trans (hb.mono K5.out.size))
        have T6 : Hid (V6.heap[w5.heap.size]? = some (.cells #[.int .i64 ru, .int .i64 rs, .int .i64 rh, .int .i64 ra, .int .i64 rn] 54)) := by rw [← hV6]; exact heap1 w5 _
        have lbV6 : w.heap.size ≤ w5.heap.size := K5.out.size
        clear hb Y5 X5 R5 O5 K5
        have M4 : Hid (MadeE V6 w.heap.size 82 l g cb) := by rw [← hV6]; exact M3.out.below ((Below.refl _ _).alloc (Nat.le_refl _) _)
        clear M3
        cases be with
        | true =>
          have HE := Lib.hid (HW0.out (by trivial) hst2.out (by trivial) hr2)
          go_wp2_with (first | (refine wpList_load_row rfl 57 _ rfl (w2.heap.size) rfl 57 _ (0, 0) _ O6.out Tryz.underlying57 rfl (by kernel_rfl) ?_) | (refine wpList_store_row rfl 57 _ _ rfl (w.heap.size + 1 + 1) #[.int .i64 st, .int .i64 sh, .int .i64 sd, .int .i64 sp, .int .i64 eu, .int .i64 es, .int .i64 eh, .int .i64 ea, .int .i64 en, .int .i64 fu, .int .i64 fs, .int .i64 fh, .int .i64 fa, .int .i64 fn, .slice (some ⟨g, 0, none⟩) n cb] rfl rfl 57 _ R6.out (by kernel_rfl) rfl (by simp [Value.oneCell']) ?_))
          exact row_ret2 (r := w.heap.size + 1 + 1) (cs := #[.int .i64 st, .int .i64 sh, .int .i64 sd, .int .i64 sp, .int .i64 eu, .int .i64 es, .int .i64 eh, .int .i64 ea, .int .i64 en, .int .i64 fu, .int .i64 fs, .int .i64 fh, .int .i64 fa, .int .i64 fn, .slice (some ⟨g, 0, none⟩) n cb]) rfl rfl rfl (setRow_heap _ _ _ _ _ _ R6.out) Tryz.underlying57 rfl (by kernel_rfl) rfl ⟨_, n, cb, by rw [HE.out.1, HE.out.2.1]; rfl, .inr ⟨g, rfl, by rw [HE.out.2.2]; exact E.out.1.symm, by rw [HE.out.2.2]; exact M4.out.heap (setRow_other _ _ _ _ (by omega))⟩, below_setRow K6.out (by omega) _⟩
        | false =>
          obtain ⟨⟨a0, a1, a2, a3, a4, a5, a6, a7, a8, a9, a10, a11, a12, a13, a14⟩, _⟩ := blk15 Y6.out
          obtain ⟨⟨x0, x1, x2, x3, x4, x5, x6⟩, _⟩ := blk7 X6.out
          go_wp2_with fail
          clear a0 a1 a2 a3 a4 a5 a6 a7 a8 a9 a10 a11 a12 a13 a14
          clear x0 x1 x2 x3 x4 x5 x6
          clear hV6
          refine (cTf.out _).mono ?_
          rintro e w7 ⟨rfl, hb⟩
          have M5 := Lib.hid (M4.out.below hb)
          clear M4
          have Y7 := Lib.hid (blk_on hb Y6.out)
          have X7 := Lib.hid (blk_on hb X6.out)
          have R7 := Lib.hid (blk_on hb R6.out)
          have O7 := Lib.hid (blk_on hb O6.out)
          have T7 := Lib.hid (blk_on hb T6.out)
          have K7 := Lib.hid (K6.out.trans (hb.mono K6.out.size))
          clear hb Y6 X6 R6 O6 T6 K6
          obtain ⟨V8, hV8⟩ : ∃ V, w7.alloc (.cells #[.int .i64 qu, .int .i64 qs, .int .i64 qh, .int .i64 qa, .int .i64 qn] 54) = V := ⟨_, rfl⟩
          have ltV8Y : w.heap.size < w7.heap.size := blk_in Y7.out
          have ltV8X : w.heap.size + 1 < w7.heap.size := blk_in X7.out
          have ltV8R : w.heap.size + 1 + 1 < w7.heap.size := blk_in R7.out
          have ltV8O : w2.heap.size < w7.heap.size := blk_in O7.out
          have ltV8T : w5.heap.size < w7.heap.size := blk_in T7.out
          have Y8 : Hid (V8.heap[w.heap.size]? = some (.cells #[.int .i64 st, .int .i64 sh, .int .i64 sd, .int .i64 sp, .int .i64 eu, .int .i64 es, .int .i64 eh, .int .i64 ea, .int .i64 en, .int .i64 fu, .int .i64 fs, .int .i64 fh, .int .i64 fa, .int .i64 fn, .slice A n cap] 57)) := by rw [← hV8]; exact alloc_blk Y7.out
          have X8 : Hid (V8.heap[w.heap.size + 1]? = some (.cells #[.int .i64 xu, .int .i64 xs, .int .i64 xh, .int .i64 xa, .int .i64 xn, .string xt, .bool xp] 43)) := by rw [← hV8]; exact alloc_blk X7.out
          have R8 : Hid (V8.heap[w.heap.size + 1 + 1]? = some (.cells #[.int .i64 0, .int .i64 0, .int .i64 0, .int .i64 0, .int .i64 0, .int .i64 0, .int .i64 0, .int .i64 0, .int .i64 0, .int .i64 0, .int .i64 0, .int .i64 0, .int .i64 0, .int .i64 0, .slice none 0 0] 57)) := by rw [← hV8]; exact alloc_blk R7.out
          have O8 : Hid (V8.heap[w2.heap.size]? = some (.cells #[.int .i64 st, .int .i64 sh, .int .i64 sd, .int .i64 sp, .int .i64 eu, .int .i64 es, .int .i64 eh, .int .i64 ea, .int .i64 en, .int .i64 fu, .int .i64 fs, .int .i64 fh, .int .i64 fa, .int .i64 fn, .slice (some ⟨g, 0, none⟩) n cb] 57)) := by rw [← hV8]; exact alloc_blk O7.out
          have T8 : Hid (V8.heap[w5.heap.size]? = some (.cells #[.int .i64 ru, .int .i64 rs, .int .i64 rh, .int .i64 ra, .int .i64 rn] 54)) := by rw [← hV8]; exact alloc_blk T7.out
          have hb : Below w7.heap.size w7 V8 := by rw [← hV8]; exact (Below.refl _ w7).alloc (Nat.le_refl _) _
          have K8 := Lib.hid (K7.out.trans (hb.mono K7.out.size))
          have U8 : Hid (V8.heap[w7.heap.size]? = some (.cells #[.int .i64 qu, .int .i64 qs, .int .i64 qh, .int .i64 qa, .int .i64 qn] 54)) := by rw [← hV8]; exact heap1 w7 _
          have lbV8 : w.heap.size ≤ w7.heap.size := K7.out.size
          clear hb Y7 X7 R7 O7 T7 K7
          have M6 : Hid (MadeE V8 w.heap.size 82 l g cb) := by rw [← hV8]; exact M5.out.below ((Below.refl _ _).alloc (Nat.le_refl _) _)
          clear M5
          cases bf with
          | false =>
            have HE := Lib.hid (HW2.out (by trivial) hst2.out (by trivial) (by trivial))
            go_wp2_with (first | (refine wpList_load_row rfl 57 _ rfl (w2.heap.size) rfl 57 _ (0, 0) _ O8.out Tryz.underlying57 rfl (by kernel_rfl) ?_) | (refine wpList_store_row rfl 57 _ _ rfl (w.heap.size + 1 + 1) #[.int .i64 st, .int .i64 sh, .int .i64 sd, .int .i64 sp, .int .i64 eu, .int .i64 es, .int .i64 eh, .int .i64 ea, .int .i64 en, .int .i64 fu, .int .i64 fs, .int .i64 fh, .int .i64 fa, .int .i64 fn, .slice (some ⟨g, 0, none⟩) n cb] rfl rfl 57 _ R8.out (by kernel_rfl) rfl (by simp [Value.oneCell']) ?_))
            exact row_ret2 (r := w.heap.size + 1 + 1) (cs := #[.int .i64 st, .int .i64 sh, .int .i64 sd, .int .i64 sp, .int .i64 eu, .int .i64 es, .int .i64 eh, .int .i64 ea, .int .i64 en, .int .i64 fu, .int .i64 fs, .int .i64 fh, .int .i64 fa, .int .i64 fn, .slice (some ⟨g, 0, none⟩) n cb]) rfl rfl rfl (setRow_heap _ _ _ _ _ _ R8.out) Tryz.underlying57 rfl (by kernel_rfl) rfl ⟨_, n, cb, by rw [HE.out.1, HE.out.2.1]; rfl, .inr ⟨g, rfl, by rw [HE.out.2.2]; exact E.out.1.symm, by rw [HE.out.2.2]; exact M6.out.heap (setRow_other _ _ _ _ (by omega))⟩, below_setRow K8.out (by omega) _⟩
          | true =>
            obtain ⟨⟨a0, a1, a2, a3, a4, a5, a6, a7, a8, a9, a10, a11, a12, a13, a14⟩, _⟩ := blk15 Y8.out
            go_wp2_with fail
            clear a0 a1 a2 a3 a4 a5 a6 a7 a8 a9 a10 a11 a12 a13 a14
            clear hV8
            refine (cI.out _).mono ?_
            rintro e w9 ⟨rfl, hb⟩
            have M7 := Lib.hid (M6.out.below hb)
            clear M6
            have Y9 := Lib.hid (blk_on hb Y8.out)
            have X9 := Lib.hid (blk_on hb X8.out)
            have R9 := Lib.hid (blk_on hb R8.out)
            have O9 := Lib.hid (blk_on hb O8.out)
            have T9 := Lib.hid (blk_on hb T8.out)
            have U9 := Lib.hid (blk_on hb U8.out)
            have K9 := Lib.hid (K8.out.trans (hb.mono K8.out.size))
            clear hb Y8 X8 R8 O8 T8 U8 K8
            cases htx : tf.toList == (⟨#[101, 110, 100]⟩ ++ tn : ByteArray).toList
            ·
              have htx2 : (tf.toList != (⟨#[101, 110, 100]⟩ ++ tn : ByteArray).toList) = true := by rw [bne, htx]; rfl
              have HE := Lib.hid (HW3.out (by trivial) hst2.out (by trivial) (by trivial) htx)
              go_wp2_with (first | (refine wpList_load_row rfl 57 _ rfl (w2.heap.size) rfl 57 _ (0, 0) _ O9.out Tryz.underlying57 rfl (by kernel_rfl) ?_) | (refine wpList_store_row rfl 57 _ _ rfl (w.heap.size + 1 + 1) #[.int .i64 st, .int .i64 sh, .int .i64 sd, .int .i64 sp, .int .i64 eu, .int .i64 es, .int .i64 eh, .int .i64 ea, .int .i64 en, .int .i64 fu, .int .i64 fs, .int .i64 fh, .int .i64 fa, .int .i64 fn, .slice (some ⟨g, 0, none⟩) n cb] rfl rfl 57 _ R9.out (by kernel_rfl) rfl (by simp [Value.oneCell']) ?_))
              exact row_ret2 (r := w.heap.size + 1 + 1) (cs := #[.int .i64 st, .int .i64 sh, .int .i64 sd, .int .i64 sp, .int .i64 eu, .int .i64 es, .int .i64 eh, .int .i64 ea, .int .i64 en, .int .i64 fu, .int .i64 fs, .int .i64 fh, .int .i64 fa, .int .i64 fn, .slice (some ⟨g, 0, none⟩) n cb]) rfl rfl rfl (setRow_heap _ _ _ _ _ _ R9.out) Tryz.underlying57 rfl (by kernel_rfl) rfl ⟨_, n, cb, by rw [HE.out.1, HE.out.2.1]; rfl, .inr ⟨g, rfl, by rw [HE.out.2.2]; exact E.out.1.symm, by rw [HE.out.2.2]; exact M7.out.heap (setRow_other _ _ _ _ (by omega))⟩, below_setRow K9.out (by omega) _⟩
            ·
              have htx2 : (tf.toList != (⟨#[101, 110, 100]⟩ ++ tn : ByteArray).toList) = false := by rw [bne, htx]; rfl
              have HE := Lib.hid (HW4.out (by trivial) hst2.out (by trivial) (by trivial) htx)
              obtain ⟨⟨a0, a1, a2, a3, a4, a5, a6, a7, a8, a9, a10, a11, a12, a13, a14⟩, az0, az1, az2, az3, az4, az5, az6, az7, az8, az9, az10, az11, az12, az13, az14⟩ := blk15 O9.out
              obtain ⟨S10, qS10⟩ : ∃ W, setAll w9 w2.heap.size 0 [.int .i64 2] = W := ⟨_, rfl⟩
              have hS10 : (w9.setCell ⟨w2.heap.size, 0, none⟩ (.int .i64 2)) = S10 := qS10
              have Y10 : Hid (S10.heap[w.heap.size]? = some (.cells #[.int .i64 st, .int .i64 sh, .int .i64 sd, .int .i64 sp, .int .i64 eu, .int .i64 es, .int .i64 eh, .int .i64 ea, .int .i64 en, .int .i64 fu, .int .i64 fs, .int .i64 fh, .int .i64 fa, .int .i64 fn, .slice A n cap] 57)) := by rw [← qS10]; exact setAll_away (by omega) _ _ Y9.out
              have X10 : Hid (S10.heap[w.heap.size + 1]? = some (.cells #[.int .i64 xu, .int .i64 xs, .int .i64 xh, .int .i64 xa, .int .i64 xn, .string xt, .bool xp] 43)) := by rw [← qS10]; exact setAll_away (by omega) _ _ X9.out
              have R10 : Hid (S10.heap[w.heap.size + 1 + 1]? = some (.cells #[.int .i64 0, .int .i64 0, .int .i64 0, .int .i64 0, .int .i64 0, .int .i64 0, .int .i64 0, .int .i64 0, .int .i64 0, .int .i64 0, .int .i64 0, .int .i64 0, .int .i64 0, .int .i64 0, .slice none 0 0] 57)) := by rw [← qS10]; exact setAll_away (by omega) _ _ R9.out
              have O10 : Hid (S10.heap[w2.heap.size]? = some (.cells #[.int .i64 2, .int .i64 sh, .int .i64 sd, .int .i64 sp, .int .i64 eu, .int .i64 es, .int .i64 eh, .int .i64 ea, .int .i64 en, .int .i64 fu, .int .i64 fs, .int .i64 fh, .int .i64 fa, .int .i64 fn, .slice (some ⟨g, 0, none⟩) n cb] 57)) := by
                rw [← qS10]
                refine (setAll_blk (w := w9) (g := w2.heap.size) [.int .i64 2] 0 O9.out).trans ?_
                refine congrArg (fun z => some (Obj.cells z 57 (0, 0))) (Array.toList_inj.1 ?_)
                rw [overA_toList _ _ _ (by simp)]
                rfl
              have T10 : Hid (S10.heap[w5.heap.size]? = some (.cells #[.int .i64 ru, .int .i64 rs, .int .i64 rh, .int .i64 ra, .int .i64 rn] 54)) := by rw [← qS10]; exact setAll_away (by omega) _ _ T9.out
              have U10 : Hid (S10.heap[w7.heap.size]? = some (.cells #[.int .i64 qu, .int .i64 qs, .int .i64 qh, .int .i64 qa, .int .i64 qn] 54)) := by rw [← qS10]; exact setAll_away (by omega) _ _ U9.out
              have K10 : Hid (Below w.heap.size w S10) := by rw [← qS10]; exact setAll_below (g := w2.heap.size) (by omega) [.int .i64 2] 0 K9.out
              have zS10 : w9.heap.size = S10.heap.size := by rw [← qS10]; exact (setAll_size [.int .i64 2] 0 _).symm
              clear qS10 Y9 X9 R9 O9 T9 U9 K9
              have M8 : Hid (MadeE S10 w.heap.size 82 l g cb) := by rw [← hS10]; exact M7.out.heap (setAll_off (g := w2.heap.size) (by omega) [.int .i64 2] 0)
              clear M7
              obtain ⟨⟨b0, b1, b2, b3, b4, b5, b6, b7, b8, b9, b10, b11, b12, b13, b14⟩, bz0, bz1, bz2, bz3, bz4, bz5, bz6, bz7, bz8, bz9, bz10, bz11, bz12, bz13, bz14⟩ := blk15 O10.out
              obtain ⟨S11, qS11⟩ : ∃ W, setAll S10 w2.heap.size 4 [.int .i64 0, .int .i64 0, .int .i64 0, .int .i64 0, .int .i64 0] = W := ⟨_, rfl⟩
              have hS11 : (((((S10.setCell ⟨w2.heap.size, 4, none⟩ (.int .i64 0)).setCell ⟨w2.heap.size, 5, none⟩ (.int .i64 0)).setCell ⟨w2.heap.size, 6, none⟩ (.int .i64 0)).setCell ⟨w2.heap.size, 7, none⟩ (.int .i64 0)).setCell ⟨w2.heap.size, 8, none⟩ (.int .i64 0)) = S11 := qS11
              have Y11 : Hid (S11.heap[w.heap.size]? = some (.cells #[.int .i64 st, .int .i64 sh, .int .i64 sd, .int .i64 sp, .int .i64 eu, .int .i64 es, .int .i64 eh, .int .i64 ea, .int .i64 en, .int .i64 fu, .int .i64 fs, .int .i64 fh, .int .i64 fa, .int .i64 fn, .slice A n cap] 57)) := by rw [← qS11]; exact setAll_away (by omega) _ _ Y10.out
              have X11 : Hid (S11.heap[w.heap.size + 1]? = some (.cells #[.int .i64 xu, .int .i64 xs, .int .i64 xh, .int .i64 xa, .int .i64 xn, .string xt, .bool xp] 43)) := by rw [← qS11]; exact setAll_away (by omega) _ _ X10.out
              have R11 : Hid (S11.heap[w.heap.size + 1 + 1]? = some (.cells #[.int .i64 0, .int .i64 0, .int .i64 0, .int .i64 0, .int .i64 0, .int .i64 0, .int .i64 0, .int .i64 0, .int .i64 0, .int .i64 0, .int .i64 0, .int .i64 0, .int .i64 0, .int .i64 0, .slice none 0 0] 57)) := by rw [← qS11]; exact setAll_away (by omega) _ _ R10.out
              have O11 : Hid (S11.heap[w2.heap.size]? = some (.cells #[.int .i64 2, .int .i64 sh, .int .i64 sd, .int .i64 sp, .int .i64 0, .int .i64 0, .int .i64 0, .int .i64 0, .int .i64 0, .int .i64 fu, .int .i64 fs, .int .i64 fh, .int .i64 fa, .int .i64 fn, .slice (some ⟨g, 0, none⟩) n cb] 57)) := by
                rw [← qS11]
                refine (setAll_blk (w := S10) (g := w2.heap.size) [.int .i64 0, .int .i64 0, .int .i64 0, .int .i64 0, .int .i64 0] 4 O10.out).trans ?_
                refine congrArg (fun z => some (Obj.cells z 57 (0, 0))) (Array.toList_inj.1 ?_)
                rw [overA_toList _ _ _ (by simp)]
                rfl
              have T11 : Hid (S11.heap[w5.heap.size]? = some (.cells #[.int .i64 ru, .int .i64 rs, .int .i64 rh, .int .i64 ra, .int .i64 rn] 54)) := by rw [← qS11]; exact setAll_away (by omega) _ _ T10.out
              have U11 : Hid (S11.heap[w7.heap.size]? = some (.cells #[.int .i64 qu, .int .i64 qs, .int .i64 qh, .int .i64 qa, .int .i64 qn] 54)) := by rw [← qS11]; exact setAll_away (by omega) _ _ U10.out
              have K11 : Hid (Below w.heap.size w S11) := by rw [← qS11]; exact setAll_below (g := w2.heap.size) (by omega) [.int .i64 0, .int .i64 0, .int .i64 0, .int .i64 0, .int .i64 0] 4 K10.out
              have zS11 : S10.heap.size = S11.heap.size := by rw [← qS11]; exact (setAll_size [.int .i64 0, .int .i64 0, .int .i64 0, .int .i64 0, .int .i64 0] 4 _).symm
              clear qS11 Y10 X10 R10 O10 T10 U10 K10
              have M9 : Hid (MadeE S11 w.heap.size 82 l g cb) := by rw [← hS11]; exact M8.out.heap (setAll_off (g := w2.heap.size) (by omega) [.int .i64 0, .int .i64 0, .int .i64 0, .int .i64 0, .int .i64 0] 4)
              clear M8
              obtain ⟨⟨c0, c1, c2, c3, c4, c5, c6, c7, c8, c9, c10, c11, c12, c13, c14⟩, cz0, cz1, cz2, cz3, cz4, cz5, cz6, cz7, cz8, cz9, cz10, cz11, cz12, cz13, cz14⟩ := blk15 O11.out
              obtain ⟨⟨d0, d1, d2, d3, d4⟩, _⟩ := blk5 U11.out
              obtain ⟨S12, qS12⟩ : ∃ W, setAll S11 w2.heap.size 9 [.int .i64 qu, .int .i64 qs, .int .i64 qh, .int .i64 qa, .int .i64 qn] = W := ⟨_, rfl⟩
              have hS12 : (((((S11.setCell ⟨w2.heap.size, 9, none⟩ (.int .i64 qu)).setCell ⟨w2.heap.size, 10, none⟩ (.int .i64 qs)).setCell ⟨w2.heap.size, 11, none⟩ (.int .i64 qh)).setCell ⟨w2.heap.size, 12, none⟩ (.int .i64 qa)).setCell ⟨w2.heap.size, 13, none⟩ (.int .i64 qn)) = S12 := qS12
              have Y12 : Hid (S12.heap[w.heap.size]? = some (.cells #[.int .i64 st, .int .i64 sh, .int .i64 sd, .int .i64 sp, .int .i64 eu, .int .i64 es, .int .i64 eh, .int .i64 ea, .int .i64 en, .int .i64 fu, .int .i64 fs, .int .i64 fh, .int .i64 fa, .int .i64 fn, .slice A n cap] 57)) := by rw [← qS12]; exact setAll_away (by omega) _ _ Y11.out
              have X12 : Hid (S12.heap[w.heap.size + 1]? = some (.cells #[.int .i64 xu, .int .i64 xs, .int .i64 xh, .int .i64 xa, .int .i64 xn, .string xt, .bool xp] 43)) := by rw [← qS12]; exact setAll_away (by omega) _ _ X11.out
              have R12 : Hid (S12.heap[w.heap.size + 1 + 1]? = some (.cells #[.int .i64 0, .int .i64 0, .int .i64 0, .int .i64 0, .int .i64 0, .int .i64 0, .int .i64 0, .int .i64 0, .int .i64 0, .int .i64 0, .int .i64 0, .int .i64 0, .int .i64 0, .int .i64 0, .slice none 0 0] 57)) := by rw [← qS12]; exact setAll_away (by omega) _ _ R11.out
              have O12 : Hid (S12.heap[w2.heap.size]? = some (.cells #[.int .i64 2, .int .i64 sh, .int .i64 sd, .int .i64 sp, .int .i64 0, .int .i64 0, .int .i64 0, .int .i64 0, .int .i64 0, .int .i64 qu, .int .i64 qs, .int .i64 qh, .int .i64 qa, .int .i64 qn, .slice (some ⟨g, 0, none⟩) n cb] 57)) := by
                rw [← qS12]
                refine (setAll_blk (w := S11) (g := w2.heap.size) [.int .i64 qu, .int .i64 qs, .int .i64 qh, .int .i64 qa, .int .i64 qn] 9 O11.out).trans ?_
                refine congrArg (fun z => some (Obj.cells z 57 (0, 0))) (Array.toList_inj.1 ?_)
                rw [overA_toList _ _ _ (by simp)]
                rfl
              have T12 : Hid (S12.heap[w5.heap.size]? = some (.cells #[.int .i64 ru, .int .i64 rs, .int .i64 rh, .int .i64 ra, .int .i64 rn] 54)) := by rw [← qS12]; exact setAll_away (by omega) _ _ T11.out
              have U12 : Hid (S12.heap[w7.heap.size]? = some (.cells #[.int .i64 qu, .int .i64 qs, .int .i64 qh, .int .i64 qa, .int .i64 qn] 54)) := by rw [← qS12]; exact setAll_away (by omega) _ _ U11.out
              have K12 : Hid (Below w.heap.size w S12) := by rw [← qS12]; exact setAll_below (g := w2.heap.size) (by omega) [.int .i64 qu, .int .i64 qs, .int .i64 qh, .int .i64 qa, .int .i64 qn] 9 K11.out
              have zS12 : S11.heap.size = S12.heap.size := by rw [← qS12]; exact (setAll_size [.int .i64 qu, .int .i64 qs, .int .i64 qh, .int .i64 qa, .int .i64 qn] 9 _).symm
              clear qS12 Y11 X11 R11 O11 T11 U11 K11
              have M10 : Hid (MadeE S12 w.heap.size 82 l g cb) := by rw [← hS12]; exact M9.out.heap (setAll_off (g := w2.heap.size) (by omega) [.int .i64 qu, .int .i64 qs, .int .i64 qh, .int .i64 qa, .int .i64 qn] 9)
              clear M9
              go_upto_region 19 with fail
              clear a0 a1 a2 a3 a4 a5 a6 a7 a8 a9 a10 a11 a12 a13 a14 az0 az1 az2 az3 az4 az5 az6 az7 az8 az9 az10 az11 az12 az13 az14
              clear b0 b1 b2 b3 b4 b5 b6 b7 b8 b9 b10 b11 b12 b13 b14 bz0 bz1 bz2 bz3 bz4 bz5 bz6 bz7 bz8 bz9 bz10 bz11 bz12 bz13 bz14
              clear c0 c1 c2 c3 c4 c5 c6 c7 c8 c9 c10 c11 c12 c13 c14 cz0 cz1 cz2 cz3 cz4 cz5 cz6 cz7 cz8 cz9 cz10 cz11 cz12 cz13 cz14
              clear d0 d1 d2 d3 d4
              try rw [hS12]
              clear hS10 hS11 hS12
              go_wp2_with (first | (refine wpList_load_row rfl 57 _ rfl (w2.heap.size) rfl 57 _ (0, 0) _ O12.out Tryz.underlying57 rfl (by kernel_rfl) ?_) | (refine wpList_store_row rfl 57 _ _ rfl (w.heap.size + 1 + 1) #[.int .i64 2, .int .i64 sh, .int .i64 sd, .int .i64 sp, .int .i64 0, .int .i64 0, .int .i64 0, .int .i64 0, .int .i64 0, .int .i64 qu, .int .i64 qs, .int .i64 qh, .int .i64 qa, .int .i64 qn, .slice (some ⟨g, 0, none⟩) n cb] rfl rfl 57 _ R12.out (by kernel_rfl) rfl (by simp [Value.oneCell']) ?_))
              exact row_ret2 (r := w.heap.size + 1 + 1) (cs := #[.int .i64 2, .int .i64 sh, .int .i64 sd, .int .i64 sp, .int .i64 0, .int .i64 0, .int .i64 0, .int .i64 0, .int .i64 0, .int .i64 qu, .int .i64 qs, .int .i64 qh, .int .i64 qa, .int .i64 qn, .slice (some ⟨g, 0, none⟩) n cb]) rfl rfl rfl (setRow_heap _ _ _ _ _ _ R12.out) Tryz.underlying57 rfl (by kernel_rfl) rfl ⟨_, n, cb, by rw [HE.out.1, HE.out.2.1]; rfl, .inr ⟨g, rfl, by rw [HE.out.2.2]; exact E.out.1.symm, by rw [HE.out.2.2]; exact M10.out.heap (setRow_other _ _ _ _ (by omega))⟩, below_setRow K12.out (by omega) _⟩
      ·
        have hst' : (st == 1) = false := bne_int hst
        have hst2 := Lib.hid hst
        clear hst
        obtain ⟨⟨a0, a1, a2, a3, a4, a5, a6, a7, a8, a9, a10, a11, a12, a13, a14⟩, _⟩ := blk15 Y4.out
        obtain ⟨⟨x0, x1, x2, x3, x4, x5, x6⟩, _⟩ := blk7 X4.out
        go_wp2_with (refine wpList_store_row rfl 57 _ _ rfl (w2.heap.size) #[.int .i64 st, .int .i64 sh, .int .i64 sd, .int .i64 sp, .int .i64 eu, .int .i64 es, .int .i64 eh, .int .i64 ea, .int .i64 en, .int .i64 fu, .int .i64 fs, .int .i64 fh, .int .i64 fa, .int .i64 fn, .slice (some ⟨g, 0, none⟩) n cb] rfl rfl 57 _ O3.out (by kernel_rfl) rfl (by simp [Value.oneCell']) ?_)
        clear a0 a1 a2 a3 a4 a5 a6 a7 a8 a9 a10 a11 a12 a13 a14
        clear x0 x1 x2 x3 x4 x5 x6
        have M2 : Hid (MadeE (V3.setRow w2.heap.size #[.int .i64 st, .int .i64 sh, .int .i64 sd, .int .i64 sp, .int .i64 eu, .int .i64 es, .int .i64 eh, .int .i64 ea, .int .i64 en, .int .i64 fu, .int .i64 fs, .int .i64 fh, .int .i64 fa, .int .i64 fn, .slice (some ⟨g, 0, none⟩) n cb]) w.heap.size 82 l g cb) := Lib.hid (M1.out.heap (setRow_other _ _ _ _ (by omega)))
        clear M1
        clear hV3 Y3 X3 R3 O3 K3
        generalize V3.setRow w2.heap.size #[.int .i64 st, .int .i64 sh, .int .i64 sd, .int .i64 sp, .int .i64 eu, .int .i64 es, .int .i64 eh, .int .i64 ea, .int .i64 en, .int .i64 fu, .int .i64 fs, .int .i64 fh, .int .i64 fa, .int .i64 fn, .slice (some ⟨g, 0, none⟩) n cb] = S4 at Y4 X4 R4 O4 K4 M2 ⊢
        refine (cTf.out _).mono ?_
        rintro e w5 ⟨rfl, hb⟩
        have M3 := Lib.hid (M2.out.below hb)
        clear M2
        have Y5 := Lib.hid (blk_on hb Y4.out)
        have X5 := Lib.hid (blk_on hb X4.out)
        have R5 := Lib.hid (blk_on hb R4.out)
        have O5 := Lib.hid (blk_on hb O4.out)
        have K5 := Lib.hid (K4.out.trans (hb.mono K4.out.size))
        clear hb Y4 X4 R4 O4 K4
        obtain ⟨V6, hV6⟩ : ∃ V, w5.alloc (.cells #[.int .i64 qu, .int .i64 qs, .int .i64 qh, .int .i64 qa, .int .i64 qn] 54) = V := ⟨_, rfl⟩
        have ltV6Y : w.heap.size < w5.heap.size := blk_in Y5.out
        have ltV6X : w.heap.size + 1 < w5.heap.size := blk_in X5.out
        have ltV6R : w.heap.size + 1 + 1 < w5.heap.size := blk_in R5.out
        have ltV6O : w2.heap.size < w5.heap.size := blk_in O5.out
        have Y6 : Hid (V6.heap[w.heap.size]? = some (.cells #[.int .i64 st, .int .i64 sh, .int .i64 sd, .int .i64 sp, .int .i64 eu, .int .i64 es, .int .i64 eh, .int .i64 ea, .int .i64 en, .int .i64 fu, .int .i64 fs, .int .i64 fh, .int .i64 fa, .int .i64 fn, .slice A n cap] 57)) := by rw [← hV6]; exact alloc_blk Y5.out
        have X6 : Hid (V6.heap[w.heap.size + 1]? = some (.cells #[.int .i64 xu, .int .i64 xs, .int .i64 xh, .int .i64 xa, .int .i64 xn, .string xt, .bool xp] 43)) := by rw [← hV6]; exact alloc_blk X5.out
        have R6 : Hid (V6.heap[w.heap.size + 1 + 1]? = some (.cells #[.int .i64 0, .int .i64 0, .int .i64 0, .int .i64 0, .int .i64 0, .int .i64 0, .int .i64 0, .int .i64 0, .int .i64 0, .int .i64 0, .int .i64 0, .int .i64 0, .int .i64 0, .int .i64 0, .slice none 0 0] 57)) := by rw [← hV6]; exact alloc_blk R5.out
        have O6 : Hid (V6.heap[w2.heap.size]? = some (.cells #[.int .i64 st, .int .i64 sh, .int .i64 sd, .int .i64 sp, .int .i64 eu, .int .i64 es, .int .i64 eh, .int .i64 ea, .int .i64 en, .int .i64 fu, .int .i64 fs, .int .i64 fh, .int .i64 fa, .int .i64 fn, .slice (some ⟨g, 0, none⟩) n cb] 57)) := by rw [← hV6]; exact alloc_blk O5.out
        have hb : Below w5.heap.size w5 V6 := by rw [← hV6]; exact (Below.refl _ w5).alloc (Nat.le_refl _) _
        have K6 := Lib.hid (K5.out.trans (hb.mono K5.out.size))
        have U6 : Hid (V6.heap[w5.heap.size]? = some (.cells #[.int .i64 qu, .int .i64 qs, .int .i64 qh, .int .i64 qa, .int .i64 qn] 54)) := by rw [← hV6]; exact heap1 w5 _
        have lbV6 : w.heap.size ≤ w5.heap.size := K5.out.size
        clear hb Y5 X5 R5 O5 K5
        have M4 : Hid (MadeE V6 w.heap.size 82 l g cb) := by rw [← hV6]; exact M3.out.below ((Below.refl _ _).alloc (Nat.le_refl _) _)
        clear M3
        cases bf with
        | false =>
          have HE := Lib.hid (HO0.out (by trivial) hst2.out (.inl (by trivial)))
          go_wp2_with (first | (refine wpList_load_row rfl 57 _ rfl (w2.heap.size) rfl 57 _ (0, 0) _ O6.out Tryz.underlying57 rfl (by kernel_rfl) ?_) | (refine wpList_store_row rfl 57 _ _ rfl (w.heap.size + 1 + 1) #[.int .i64 st, .int .i64 sh, .int .i64 sd, .int .i64 sp, .int .i64 eu, .int .i64 es, .int .i64 eh, .int .i64 ea, .int .i64 en, .int .i64 fu, .int .i64 fs, .int .i64 fh, .int .i64 fa, .int .i64 fn, .slice (some ⟨g, 0, none⟩) n cb] rfl rfl 57 _ R6.out (by kernel_rfl) rfl (by simp [Value.oneCell']) ?_))
          exact row_ret2 (r := w.heap.size + 1 + 1) (cs := #[.int .i64 st, .int .i64 sh, .int .i64 sd, .int .i64 sp, .int .i64 eu, .int .i64 es, .int .i64 eh, .int .i64 ea, .int .i64 en, .int .i64 fu, .int .i64 fs, .int .i64 fh, .int .i64 fa, .int .i64 fn, .slice (some ⟨g, 0, none⟩) n cb]) rfl rfl rfl (setRow_heap _ _ _ _ _ _ R6.out) Tryz.underlying57 rfl (by kernel_rfl) rfl ⟨_, n, cb, by rw [HE.out.1, HE.out.2.1]; rfl, .inr ⟨g, rfl, by rw [HE.out.2.2]; exact E.out.1.symm, by rw [HE.out.2.2]; exact M4.out.heap (setRow_other _ _ _ _ (by omega))⟩, below_setRow K6.out (by omega) _⟩
        | true =>
          have HE := Lib.hid (HO0.out (by trivial) hst2.out (.inr hr2))
          go_wp2_with (first | (refine wpList_load_row rfl 57 _ rfl (w2.heap.size) rfl 57 _ (0, 0) _ O6.out Tryz.underlying57 rfl (by kernel_rfl) ?_) | (refine wpList_store_row rfl 57 _ _ rfl (w.heap.size + 1 + 1) #[.int .i64 st, .int .i64 sh, .int .i64 sd, .int .i64 sp, .int .i64 eu, .int .i64 es, .int .i64 eh, .int .i64 ea, .int .i64 en, .int .i64 fu, .int .i64 fs, .int .i64 fh, .int .i64 fa, .int .i64 fn, .slice (some ⟨g, 0, none⟩) n cb] rfl rfl 57 _ R6.out (by kernel_rfl) rfl (by simp [Value.oneCell']) ?_))
          exact row_ret2 (r := w.heap.size + 1 + 1) (cs := #[.int .i64 st, .int .i64 sh, .int .i64 sd, .int .i64 sp, .int .i64 eu, .int .i64 es, .int .i64 eh, .int .i64 ea, .int .i64 en, .int .i64 fu, .int .i64 fs, .int .i64 fh, .int .i64 fa, .int .i64 fn, .slice (some ⟨g, 0, none⟩) n cb]) rfl rfl rfl (setRow_heap _ _ _ _ _ _ R6.out) Tryz.underlying57 rfl (by kernel_rfl) rfl ⟨_, n, cb, by rw [HE.out.1, HE.out.2.1]; rfl, .inr ⟨g, rfl, by rw [HE.out.2.2]; exact E.out.1.symm, by rw [HE.out.2.2]; exact M4.out.heap (setRow_other _ _ _ _ (by omega))⟩, below_setRow K6.out (by omega) _⟩
end Go.Proofs.YtioogmeghmeelaaGreatDoor.Tx

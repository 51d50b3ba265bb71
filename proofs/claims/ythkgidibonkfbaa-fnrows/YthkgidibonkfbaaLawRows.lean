/-
  The law FnRows returns true at every code, and the code reads behind the call as it read before: what is put is what is taken, in order, each once, whatever comes twice, spoilt or too early between. No condition.
-/
import Derived.Test.YthkgidibonkfbaaRows
import Derived.WalkKit
import Derived.ProofKit
import Derived.OpenShut
import Derived.ShutString
import Derived.ChangeOld
import Derived.Below
import Derived.SliceStrings
import Derived.Lib.SmallJoins
import Derived.Test.YthkgidibonkfbaaDraw5
import Derived.Test.YthkgidibonkfbaaRegionL
import Derived.Test.YthkgidibonkfbaaBoxes
import Derived.Test.YthkgidibonkfbaaImpl4
import Derived.Test.YthkgidibonkfbaaImpl5
namespace Go.Proofs.Ythkgidibonkfbaa.fnRows
open Go.ChangeShapes Go.WideShapes Go.ChangeAt Go.RowKit
open Go.ChangeMaps (open_string shut_string)
set_option linter.unusedVariables false

open Tx (KeyV BoxV RowV)

/-- Each box spoilt, then twice. -/
def tw (bs : List BoxV) : List BoxV := bs.flatMap fun b => [b.spoil, b, b]
theorem tw_snoc (bs : List BoxV) (b : BoxV) : tw (bs ++ [b]) = tw bs ++ [b.spoil, b, b] := by simp [tw]
theorem tw_length (bs : List BoxV) : (tw bs).length = 3 * bs.length := by
  induction bs with
  | nil => rfl
  | cons b r ih => have e : tw (b :: r) = [b.spoil, b, b] ++ tw r := rfl; rw [e, List.length_append, ih]; simp; omega
/-- What is put is what is taken. -/
theorem back_again : ∀ (ss : List ByteArray) (r : RowV), Tx.rowOkB r = true → Tx.takeAllR r (tw (Tx.putAllL r ss)) = Tx.putAllR r ss ∧ Tx.takeAllL r (tw (Tx.putAllL r ss)) = ss.take (Tx.putAllL r ss).length
  | [], r, _ => ⟨rfl, rfl⟩
  | t :: l, r, hr => by
    cases hp : Tx.putB r t with
    | false => simp [Tx.putAllL, Tx.putAllR, hp, tw, Tx.takeAllR, Tx.takeAllL]
    | true =>
      have h0 := hp
      simp only [Tx.putB, Bool.and_eq_true] at h0
      obtain ⟨_, hb, hg⟩ := h0
      have ih := back_again l r.on (Tx.rowOk_on hr hg)
      have e : tw (⟨r.k, r.no, t, false⟩ :: Tx.putAllL r.on l) = (BoxV.spoil ⟨r.k, r.no, t, false⟩) :: ⟨r.k, r.no, t, false⟩ :: ⟨r.k, r.no, t, false⟩ :: tw (Tx.putAllL r.on l) := rfl
      have t1 : Tx.takeB r (BoxV.spoil ⟨r.k, r.no, t, false⟩) = false := by simp [Tx.takeB, Tx.open_spoilt]
      have t2 : Tx.takeB r ⟨r.k, r.no, t, false⟩ = true := by simp [Tx.takeB, hr, hg, (Tx.open_own hb).1]
      have t3 : Tx.takeB r.on ⟨r.k, r.no, t, false⟩ = false := by
        have : Tx.openB ⟨r.k, r.no, t, false⟩ r.on.k r.on.no = false := Tx.open_late (by show r.no ≠ r.no + 1; omega)
        simp [Tx.takeB, this]
      simp only [Tx.putAllL, Tx.putAllR, hp, if_true, e]
      constructor
      · simp only [Tx.takeAllR, t1, t2, t3, if_true, Bool.false_eq_true, if_false]
        exact ih.1
      · simp only [Tx.takeAllL, t1, t2, t3, if_true, Bool.false_eq_true, if_false, List.length_cons, List.take_succ_cons]
        rw [ih.2]
theorem eq_row_self (u s h a no : Int) (w : World) : (Op.equalIn 10000 27 (.agg #[.int .i64 u, .int .i64 s, .int .i64 h, .int .i64 a, .int .i64 no]) (.agg #[.int .i64 u, .int .i64 s, .int .i64 h, .int .i64 a, .int .i64 no])).run Try.prog w = .ok true w := by
  simp [go_sem]

/-- What holds at the head of the loop that doubles. -/
def TwInv (w : World) (base g3 g5 : Nat) (r x : RowV) (ss : List ByteArray) (bs : List BoxV) (gS cS gl cl : Nat) (k : Nat) (v : Value) (wr : World) : Prop :=
  ∃ gt ct : Nat, v = .slice (some ⟨gt, 0, none⟩) (tw (bs.take k)).length ct ∧ Tx.MadeB wr base (tw (bs.take k)) gt ct ∧ Tx.MadeS wr w.heap.size ss gS cS ∧ Tx.MadeB wr w.heap.size bs gl cl ∧
    wr.heap[g3]? = some (.cells r.cells.toArray 27) ∧ wr.heap[g5]? = some (.cells x.cells.toArray 27) ∧ Below w.heap.size w wr

set_option maxRecDepth 100000 in
set_option maxHeartbeats 16000000 in
theorem walk (w : World) (A : Option Addr) (n cap : Nat) (hb : Tx.BytesAt w w.heap.size A n) (hl : n ≤ maxLen) :
    Calls Try.prog 3 #[.slice A n cap] w fun e w' => e = .returned (.bool true) ∧ Below w.heap.size w w' := by
  unfold maxLen at hl
  have K := Lib.hid (Below.refl w.heap.size w)
  have BT := Lib.hid hb
  clear hb
  by_cases hbig : 4096 < n
  · have hd : decide (4096 < n) = true := by simpa using hbig
    go_enter Try.func3, Try.ntmps3
    go_wp2_with fail
    refine (Tx.big_any _ _ _ _).mono ?_
    rintro e w' ⟨rfl, rfl⟩
    go_wp2
    go_ret
    exact ⟨rfl, Below.refl _ _⟩
  have hd : decide (4096 < n) = false := by simpa using hbig
  have hn : n ≤ 4096 := by omega
  clear hbig
  go_enter Try.func3, Try.ntmps3
  go_wp2_with fail
  refine (Tx.big_any _ _ _ _).mono ?_
  rintro e w' ⟨rfl, rfl⟩
  go_wp2_with fail
  refine (Tx.DrawPutAll_any _ _ _ _ hn (BT.out.up K.out.size)).mono ?_
  rintro e w1 ⟨⟨⟨ru, rs, rh, ra⟩, rn⟩, ss, gS, cS, hss, rfl, hM, b⟩
  have HVr : Hid (RowV.val ⟨⟨ru, rs, rh, ra⟩, rn⟩ = .agg #[.int .i64 ru, .int .i64 rs, .int .i64 rh, .int .i64 ra, .int .i64 rn]) := rfl
  rw [HVr.out]
  have S := Lib.hid hM
  have hS0 := hM.base
  clear hM
  have z1 := b.size
  replace BT := Lib.hid (BT.out.below (b.mono K.out.size))
  replace K := Lib.hid (K.out.trans (b.mono K.out.size))
  clear b
  obtain ⟨VG3, hVG3⟩ : ∃ W, w1.alloc (.cells #[.int .i64 ru, .int .i64 rs, .int .i64 rh, .int .i64 ra, .int .i64 rn] 27) = W := ⟨_, rfl⟩
  have bVG3 : Below w1.heap.size w1 VG3 := hVG3 ▸ (Below.refl _ w1).alloc (Nat.le_refl _) _
  replace BT := Lib.hid (BT.out.below (bVG3.mono K.out.size))
  replace K := Lib.hid (K.out.trans (bVG3.mono K.out.size))
  replace S := Lib.hid (S.out.below bVG3)
  have G3 : Hid (VG3.heap[w1.heap.size]? = some (.cells #[.int .i64 ru, .int .i64 rs, .int .i64 rh, .int .i64 ra, .int .i64 rn] 27)) := by rw [← hVG3]; exact Tx.heap1 w1 _
  have sVG3 : w1.heap.size < VG3.heap.size := by rw [← hVG3]; simp
  clear bVG3
  obtain ⟨⟨⟨xu, xs, xh, xa⟩, xn⟩, hx⟩ : ∃ x, (if Tx.rowOkB ⟨⟨ru, rs, rh, ra⟩, rn⟩ then Tx.putAllR ⟨⟨ru, rs, rh, ra⟩, rn⟩ ss else .zero) = x := ⟨_, rfl⟩
  obtain ⟨bs, hbs⟩ : ∃ x, (if Tx.rowOkB ⟨⟨ru, rs, rh, ra⟩, rn⟩ then Tx.putAllL ⟨⟨ru, rs, rh, ra⟩, rn⟩ ss else []) = x := ⟨_, rfl⟩
  have hbl : bs.length ≤ ss.length := by
    rw [← hbs]
    split
    · exact Tx.putAllL_length ss _
    · exact Nat.zero_le _
  have HX := Lib.hid hx
  have HBS := Lib.hid hbs
  obtain ⟨⟨c0, c1, c2, c3, c4⟩, _⟩ := Tx.blk5 G3.out
  go_wp2_with fail
  clear c0 c1 c2 c3 c4
  clear hx hbs hVG3
  have hP := Tx.PutAll_impl ⟨⟨ru, rs, rh, ra⟩, rn⟩ _ _ cS ss _ (Tx.madeS_strs S.out) (by omega)
  unfold Tx.PutAllOut at hP
  rw [HX.out, HBS.out] at hP
  refine hP.mono ?_
  clear hP
  rintro e w2 ⟨gl, cl, rfl, hM, b⟩
  have HVx : Hid (RowV.val ⟨⟨xu, xs, xh, xa⟩, xn⟩ = .agg #[.int .i64 xu, .int .i64 xs, .int .i64 xh, .int .i64 xa, .int .i64 xn]) := rfl
  rw [HVx.out]
  have L := Lib.hid hM
  have hL0 := hM.base
  clear hM
  have z2 := b.size
  replace BT := Lib.hid (BT.out.below (b.mono K.out.size))
  replace K := Lib.hid (K.out.trans (b.mono K.out.size))
  replace S := Lib.hid (S.out.below b)
  replace G3 := Lib.hid (Tx.blk_on b G3.out)
  clear b
  obtain ⟨VG5, hVG5⟩ : ∃ W, w2.alloc (.cells #[.int .i64 xu, .int .i64 xs, .int .i64 xh, .int .i64 xa, .int .i64 xn] 27) = W := ⟨_, rfl⟩
  have bVG5 : Below w2.heap.size w2 VG5 := hVG5 ▸ (Below.refl _ w2).alloc (Nat.le_refl _) _
  replace BT := Lib.hid (BT.out.below (bVG5.mono K.out.size))
  replace K := Lib.hid (K.out.trans (bVG5.mono K.out.size))
  replace S := Lib.hid (S.out.below bVG5)
  replace G3 := Lib.hid (Tx.blk_on bVG5 G3.out)
  replace L := Lib.hid (L.out.below bVG5)
  have G5 : Hid (VG5.heap[w2.heap.size]? = some (.cells #[.int .i64 xu, .int .i64 xs, .int .i64 xh, .int .i64 xa, .int .i64 xn] 27)) := by rw [← hVG5]; exact Tx.heap1 w2 _
  have sVG5 : w2.heap.size < VG5.heap.size := by rw [← hVG5]; simp
  clear bVG5
  go_wp2_with fail
  clear hVG5
  refine (Tx.DrawTakeAll_any _ _ _ _ hn (BT.out.up K.out.size)).mono ?_
  rintro e w3 ⟨⟨⟨qu, qs, qh, qa⟩, qn⟩, ms, gm, cm, hms, rfl, hM, b⟩
  have HVq : Hid (RowV.val ⟨⟨qu, qs, qh, qa⟩, qn⟩ = .agg #[.int .i64 qu, .int .i64 qs, .int .i64 qh, .int .i64 qa, .int .i64 qn]) := rfl
  rw [HVq.out]
  have M := Lib.hid hM
  clear hM
  have z3 := b.size
  replace BT := Lib.hid (BT.out.below (b.mono K.out.size))
  replace K := Lib.hid (K.out.trans (b.mono K.out.size))
  replace S := Lib.hid (S.out.below b)
  replace G3 := Lib.hid (Tx.blk_on b G3.out)
  replace L := Lib.hid (L.out.below b)
  replace G5 := Lib.hid (Tx.blk_on b G5.out)
  clear b
  obtain ⟨VG7, hVG7⟩ : ∃ W, w3.alloc (.cells #[.int .i64 qu, .int .i64 qs, .int .i64 qh, .int .i64 qa, .int .i64 qn] 27) = W := ⟨_, rfl⟩
  have bVG7 : Below w3.heap.size w3 VG7 := hVG7 ▸ (Below.refl _ w3).alloc (Nat.le_refl _) _
  replace BT := Lib.hid (BT.out.below (bVG7.mono K.out.size))
  replace K := Lib.hid (K.out.trans (bVG7.mono K.out.size))
  replace S := Lib.hid (S.out.below bVG7)
  replace G3 := Lib.hid (Tx.blk_on bVG7 G3.out)
  replace L := Lib.hid (L.out.below bVG7)
  replace G5 := Lib.hid (Tx.blk_on bVG7 G5.out)
  replace M := Lib.hid (M.out.below bVG7)
  have G7 : Hid (VG7.heap[w3.heap.size]? = some (.cells #[.int .i64 qu, .int .i64 qs, .int .i64 qh, .int .i64 qa, .int .i64 qn] 27)) := by rw [← hVG7]; exact Tx.heap1 w3 _
  have sVG7 : w3.heap.size < VG7.heap.size := by rw [← hVG7]; simp
  clear bVG7
  obtain ⟨⟨⟨yu, ys, yh, ya⟩, yn⟩, hy⟩ : ∃ x, (if Tx.rowOkB ⟨⟨qu, qs, qh, qa⟩, qn⟩ then Tx.takeAllR ⟨⟨qu, qs, qh, qa⟩, qn⟩ ms else .zero) = x := ⟨_, rfl⟩
  obtain ⟨os, hos⟩ : ∃ x, (if Tx.rowOkB ⟨⟨qu, qs, qh, qa⟩, qn⟩ then Tx.takeAllL ⟨⟨qu, qs, qh, qa⟩, qn⟩ ms else []) = x := ⟨_, rfl⟩
  have hol : os.length ≤ ms.length := by
    rw [← hos]
    split
    · exact Tx.takeAllL_length ms _
    · exact Nat.zero_le _
  have HY := Lib.hid hy
  have HOS := Lib.hid hos
  obtain ⟨⟨c0, c1, c2, c3, c4⟩, _⟩ := Tx.blk5 G7.out
  go_wp2_with fail
  clear c0 c1 c2 c3 c4
  clear hy hos hVG7
  have hP := Tx.TakeAll_impl ⟨⟨qu, qs, qh, qa⟩, qn⟩ _ _ cm ms _ (Tx.MadeB.bxs M.out) (by omega)
  unfold Tx.TakeAllOut at hP
  rw [HY.out, HOS.out] at hP
  refine hP.mono ?_
  clear hP
  rintro e w4 ⟨go, co, rfl, hM, b⟩
  have HVy : Hid (RowV.val ⟨⟨yu, ys, yh, ya⟩, yn⟩ = .agg #[.int .i64 yu, .int .i64 ys, .int .i64 yh, .int .i64 ya, .int .i64 yn]) := rfl
  rw [HVy.out]
  have O := Lib.hid hM
  clear hM
  have z4 := b.size
  replace BT := Lib.hid (BT.out.below (b.mono K.out.size))
  replace K := Lib.hid (K.out.trans (b.mono K.out.size))
  replace S := Lib.hid (S.out.below b)
  replace G3 := Lib.hid (Tx.blk_on b G3.out)
  replace L := Lib.hid (L.out.below b)
  replace G5 := Lib.hid (Tx.blk_on b G5.out)
  replace M := Lib.hid (M.out.below b)
  replace G7 := Lib.hid (Tx.blk_on b G7.out)
  clear b
  obtain ⟨VG9, hVG9⟩ : ∃ W, w4.alloc (.cells #[.int .i64 yu, .int .i64 ys, .int .i64 yh, .int .i64 ya, .int .i64 yn] 27) = W := ⟨_, rfl⟩
  have bVG9 : Below w4.heap.size w4 VG9 := hVG9 ▸ (Below.refl _ w4).alloc (Nat.le_refl _) _
  replace BT := Lib.hid (BT.out.below (bVG9.mono K.out.size))
  replace K := Lib.hid (K.out.trans (bVG9.mono K.out.size))
  replace S := Lib.hid (S.out.below bVG9)
  replace G3 := Lib.hid (Tx.blk_on bVG9 G3.out)
  replace L := Lib.hid (L.out.below bVG9)
  replace G5 := Lib.hid (Tx.blk_on bVG9 G5.out)
  replace M := Lib.hid (M.out.below bVG9)
  replace G7 := Lib.hid (Tx.blk_on bVG9 G7.out)
  replace O := Lib.hid (O.out.below bVG9)
  have G9 : Hid (VG9.heap[w4.heap.size]? = some (.cells #[.int .i64 yu, .int .i64 ys, .int .i64 yh, .int .i64 ya, .int .i64 yn] 27)) := by rw [← hVG9]; exact Tx.heap1 w4 _
  have sVG9 : w4.heap.size < VG9.heap.size := by rw [← hVG9]; simp
  clear bVG9
  go_wp2_with fail
  clear hVG9
  refine (Tx.DrawPut_any _ _ _ _ hn (BT.out.up K.out.size)).mono ?_
  rintro e w5 ⟨⟨⟨pu, ps, ph, pa⟩, pn⟩, pt, rfl, b⟩
  have HVp : Hid (RowV.val ⟨⟨pu, ps, ph, pa⟩, pn⟩ = .agg #[.int .i64 pu, .int .i64 ps, .int .i64 ph, .int .i64 pa, .int .i64 pn]) := rfl
  rw [HVp.out]
  have z5 := b.size
  replace BT := Lib.hid (BT.out.below (b.mono K.out.size))
  replace K := Lib.hid (K.out.trans (b.mono K.out.size))
  replace S := Lib.hid (S.out.below b)
  replace G3 := Lib.hid (Tx.blk_on b G3.out)
  replace L := Lib.hid (L.out.below b)
  replace G5 := Lib.hid (Tx.blk_on b G5.out)
  replace M := Lib.hid (M.out.below b)
  replace G7 := Lib.hid (Tx.blk_on b G7.out)
  replace O := Lib.hid (O.out.below b)
  replace G9 := Lib.hid (Tx.blk_on b G9.out)
  clear b
  obtain ⟨VG11, hVG11⟩ : ∃ W, w5.alloc (.cells #[.int .i64 pu, .int .i64 ps, .int .i64 ph, .int .i64 pa, .int .i64 pn] 27) = W := ⟨_, rfl⟩
  have bVG11 : Below w5.heap.size w5 VG11 := hVG11 ▸ (Below.refl _ w5).alloc (Nat.le_refl _) _
  replace BT := Lib.hid (BT.out.below (bVG11.mono K.out.size))
  replace K := Lib.hid (K.out.trans (bVG11.mono K.out.size))
  replace S := Lib.hid (S.out.below bVG11)
  replace G3 := Lib.hid (Tx.blk_on bVG11 G3.out)
  replace L := Lib.hid (L.out.below bVG11)
  replace G5 := Lib.hid (Tx.blk_on bVG11 G5.out)
  replace M := Lib.hid (M.out.below bVG11)
  replace G7 := Lib.hid (Tx.blk_on bVG11 G7.out)
  replace O := Lib.hid (O.out.below bVG11)
  replace G9 := Lib.hid (Tx.blk_on bVG11 G9.out)
  have G11 : Hid (VG11.heap[w5.heap.size]? = some (.cells #[.int .i64 pu, .int .i64 ps, .int .i64 ph, .int .i64 pa, .int .i64 pn] 27)) := by rw [← hVG11]; exact Tx.heap1 w5 _
  have sVG11 : w5.heap.size < VG11.heap.size := by rw [← hVG11]; simp
  clear bVG11
  obtain ⟨⟨⟨zu, zs, zh, za⟩, zn⟩, hz⟩ : ∃ x, Tx.putR ⟨⟨pu, ps, ph, pa⟩, pn⟩ pt = x := ⟨_, rfl⟩
  obtain ⟨⟨⟨ju, js, jh, ja⟩, jn, jt, jp⟩, hb⟩ : ∃ x, Tx.putX ⟨⟨pu, ps, ph, pa⟩, pn⟩ pt = x := ⟨_, rfl⟩
  obtain ⟨is, his⟩ : ∃ x, Tx.putB ⟨⟨pu, ps, ph, pa⟩, pn⟩ pt = x := ⟨_, rfl⟩
  have HZ := Lib.hid hz
  have HBB := Lib.hid hb
  have HIS := Lib.hid his
  obtain ⟨⟨c0, c1, c2, c3, c4⟩, _⟩ := Tx.blk5 G11.out
  go_wp2_with fail
  clear c0 c1 c2 c3 c4
  clear hVG11 hz hb his
  refine (Tx.Put_impl ⟨⟨pu, ps, ph, pa⟩, pn⟩ pt _).mono ?_
  rintro e w6 ⟨rfl, b⟩
  rw [HZ.out, HBB.out, HIS.out]
  have HVz : Hid (RowV.val ⟨⟨zu, zs, zh, za⟩, zn⟩ = .agg #[.int .i64 zu, .int .i64 zs, .int .i64 zh, .int .i64 za, .int .i64 zn]) := rfl
  rw [HVz.out]
  have HVj : Hid (BoxV.val ⟨⟨ju, js, jh, ja⟩, jn, jt, jp⟩ = .agg #[.int .i64 ju, .int .i64 js, .int .i64 jh, .int .i64 ja, .int .i64 jn, .string jt, .bool jp]) := rfl
  rw [HVj.out]
  have z6 := b.size
  replace BT := Lib.hid (BT.out.below (b.mono K.out.size))
  replace K := Lib.hid (K.out.trans (b.mono K.out.size))
  replace S := Lib.hid (S.out.below b)
  replace G3 := Lib.hid (Tx.blk_on b G3.out)
  replace L := Lib.hid (L.out.below b)
  replace G5 := Lib.hid (Tx.blk_on b G5.out)
  replace M := Lib.hid (M.out.below b)
  replace G7 := Lib.hid (Tx.blk_on b G7.out)
  replace O := Lib.hid (O.out.below b)
  replace G9 := Lib.hid (Tx.blk_on b G9.out)
  replace G11 := Lib.hid (Tx.blk_on b G11.out)
  clear b
  obtain ⟨VG14, hVG14⟩ : ∃ W, (w6.alloc (.cells #[.int .i64 zu, .int .i64 zs, .int .i64 zh, .int .i64 za, .int .i64 zn] 27)).alloc (.cells #[.int .i64 ju, .int .i64 js, .int .i64 jh, .int .i64 ja, .int .i64 jn, .string jt, .bool jp] 39) = W := ⟨_, rfl⟩
  have bVG14 : Below w6.heap.size w6 VG14 := hVG14 ▸ ((Below.refl _ w6).alloc (Nat.le_refl _) _).alloc (by simp) _
  replace BT := Lib.hid (BT.out.below (bVG14.mono K.out.size))
  replace K := Lib.hid (K.out.trans (bVG14.mono K.out.size))
  replace S := Lib.hid (S.out.below bVG14)
  replace G3 := Lib.hid (Tx.blk_on bVG14 G3.out)
  replace L := Lib.hid (L.out.below bVG14)
  replace G5 := Lib.hid (Tx.blk_on bVG14 G5.out)
  replace M := Lib.hid (M.out.below bVG14)
  replace G7 := Lib.hid (Tx.blk_on bVG14 G7.out)
  replace O := Lib.hid (O.out.below bVG14)
  replace G9 := Lib.hid (Tx.blk_on bVG14 G9.out)
  replace G11 := Lib.hid (Tx.blk_on bVG14 G11.out)
  have G13 : Hid (VG14.heap[w6.heap.size]? = some (.cells #[.int .i64 zu, .int .i64 zs, .int .i64 zh, .int .i64 za, .int .i64 zn] 27)) := by rw [← hVG14]; exact Tx.heap2a w6 _ _
  have G14 : Hid (VG14.heap[w6.heap.size + 1]? = some (.cells #[.int .i64 ju, .int .i64 js, .int .i64 jh, .int .i64 ja, .int .i64 jn, .string jt, .bool jp] 39)) := by rw [← hVG14]; exact Tx.heap2b w6 _ _
  have sVG14 : w6.heap.size + 1 < VG14.heap.size := by rw [← hVG14]; simp
  clear bVG14
  go_wp2_with fail
  clear hVG14
  refine (Tx.DrawTake_any _ _ _ _ hn (BT.out.up K.out.size)).mono ?_
  rintro e w7 ⟨⟨⟨tu, ts, th, ta⟩, tn⟩, ⟨⟨cu, cs, ch, ca⟩, cn, ct, cp⟩, rfl, b⟩
  have HVt : Hid (RowV.val ⟨⟨tu, ts, th, ta⟩, tn⟩ = .agg #[.int .i64 tu, .int .i64 ts, .int .i64 th, .int .i64 ta, .int .i64 tn]) := rfl
  rw [HVt.out]
  have HVc : Hid (BoxV.val ⟨⟨cu, cs, ch, ca⟩, cn, ct, cp⟩ = .agg #[.int .i64 cu, .int .i64 cs, .int .i64 ch, .int .i64 ca, .int .i64 cn, .string ct, .bool cp]) := rfl
  rw [HVc.out]
  have z7 := b.size
  replace BT := Lib.hid (BT.out.below (b.mono K.out.size))
  replace K := Lib.hid (K.out.trans (b.mono K.out.size))
  replace S := Lib.hid (S.out.below b)
  replace G3 := Lib.hid (Tx.blk_on b G3.out)
  replace L := Lib.hid (L.out.below b)
  replace G5 := Lib.hid (Tx.blk_on b G5.out)
  replace M := Lib.hid (M.out.below b)
  replace G7 := Lib.hid (Tx.blk_on b G7.out)
  replace O := Lib.hid (O.out.below b)
  replace G9 := Lib.hid (Tx.blk_on b G9.out)
  replace G11 := Lib.hid (Tx.blk_on b G11.out)
  replace G13 := Lib.hid (Tx.blk_on b G13.out)
  replace G14 := Lib.hid (Tx.blk_on b G14.out)
  clear b
  obtain ⟨VG17, hVG17⟩ : ∃ W, (w7.alloc (.cells #[.int .i64 tu, .int .i64 ts, .int .i64 th, .int .i64 ta, .int .i64 tn] 27)).alloc (.cells #[.int .i64 cu, .int .i64 cs, .int .i64 ch, .int .i64 ca, .int .i64 cn, .string ct, .bool cp] 39) = W := ⟨_, rfl⟩
  have bVG17 : Below w7.heap.size w7 VG17 := hVG17 ▸ ((Below.refl _ w7).alloc (Nat.le_refl _) _).alloc (by simp) _
  replace BT := Lib.hid (BT.out.below (bVG17.mono K.out.size))
  replace K := Lib.hid (K.out.trans (bVG17.mono K.out.size))
  replace S := Lib.hid (S.out.below bVG17)
  replace G3 := Lib.hid (Tx.blk_on bVG17 G3.out)
  replace L := Lib.hid (L.out.below bVG17)
  replace G5 := Lib.hid (Tx.blk_on bVG17 G5.out)
  replace M := Lib.hid (M.out.below bVG17)
  replace G7 := Lib.hid (Tx.blk_on bVG17 G7.out)
  replace O := Lib.hid (O.out.below bVG17)
  replace G9 := Lib.hid (Tx.blk_on bVG17 G9.out)
  replace G11 := Lib.hid (Tx.blk_on bVG17 G11.out)
  replace G13 := Lib.hid (Tx.blk_on bVG17 G13.out)
  replace G14 := Lib.hid (Tx.blk_on bVG17 G14.out)
  have G16 : Hid (VG17.heap[w7.heap.size]? = some (.cells #[.int .i64 tu, .int .i64 ts, .int .i64 th, .int .i64 ta, .int .i64 tn] 27)) := by rw [← hVG17]; exact Tx.heap2a w7 _ _
  have G17 : Hid (VG17.heap[w7.heap.size + 1]? = some (.cells #[.int .i64 cu, .int .i64 cs, .int .i64 ch, .int .i64 ca, .int .i64 cn, .string ct, .bool cp] 39)) := by rw [← hVG17]; exact Tx.heap2b w7 _ _
  have sVG17 : w7.heap.size + 1 < VG17.heap.size := by rw [← hVG17]; simp
  clear bVG17
  obtain ⟨⟨⟨vu, vs, vh, va⟩, vn⟩, hv⟩ : ∃ x, Tx.takeR ⟨⟨tu, ts, th, ta⟩, tn⟩ ⟨⟨cu, cs, ch, ca⟩, cn, ct, cp⟩ = x := ⟨_, rfl⟩
  obtain ⟨vt, hvt⟩ : ∃ x, Tx.takeT ⟨⟨tu, ts, th, ta⟩, tn⟩ ⟨⟨cu, cs, ch, ca⟩, cn, ct, cp⟩ = x := ⟨_, rfl⟩
  obtain ⟨took, htk⟩ : ∃ x, Tx.takeB ⟨⟨tu, ts, th, ta⟩, tn⟩ ⟨⟨cu, cs, ch, ca⟩, cn, ct, cp⟩ = x := ⟨_, rfl⟩
  have HVV := Lib.hid hv
  have HVT := Lib.hid hvt
  have HTK := Lib.hid htk
  obtain ⟨⟨c0, c1, c2, c3, c4⟩, _⟩ := Tx.blk5 G16.out
  obtain ⟨⟨d0, d1, d2, d3, d4, d5, d6⟩, _⟩ := Tx.blk7 G17.out
  go_wp2_with fail
  clear c0 c1 c2 c3 c4 d0 d1 d2 d3 d4 d5 d6
  clear hVG17 hv hvt htk
  refine (Tx.Take_impl ⟨⟨tu, ts, th, ta⟩, tn⟩ ⟨⟨cu, cs, ch, ca⟩, cn, ct, cp⟩ _).mono ?_
  rintro e w8 ⟨rfl, b⟩
  rw [HVV.out, HVT.out, HTK.out]
  have HVv : Hid (RowV.val ⟨⟨vu, vs, vh, va⟩, vn⟩ = .agg #[.int .i64 vu, .int .i64 vs, .int .i64 vh, .int .i64 va, .int .i64 vn]) := rfl
  rw [HVv.out]
  have z8 := b.size
  replace BT := Lib.hid (BT.out.below (b.mono K.out.size))
  replace K := Lib.hid (K.out.trans (b.mono K.out.size))
  replace S := Lib.hid (S.out.below b)
  replace G3 := Lib.hid (Tx.blk_on b G3.out)
  replace L := Lib.hid (L.out.below b)
  replace G5 := Lib.hid (Tx.blk_on b G5.out)
  replace M := Lib.hid (M.out.below b)
  replace G7 := Lib.hid (Tx.blk_on b G7.out)
  replace O := Lib.hid (O.out.below b)
  replace G9 := Lib.hid (Tx.blk_on b G9.out)
  replace G11 := Lib.hid (Tx.blk_on b G11.out)
  replace G13 := Lib.hid (Tx.blk_on b G13.out)
  replace G14 := Lib.hid (Tx.blk_on b G14.out)
  replace G16 := Lib.hid (Tx.blk_on b G16.out)
  replace G17 := Lib.hid (Tx.blk_on b G17.out)
  clear b
  obtain ⟨VG18, hVG18⟩ : ∃ W, w8.alloc (.cells #[.int .i64 vu, .int .i64 vs, .int .i64 vh, .int .i64 va, .int .i64 vn] 27) = W := ⟨_, rfl⟩
  have bVG18 : Below w8.heap.size w8 VG18 := hVG18 ▸ (Below.refl _ w8).alloc (Nat.le_refl _) _
  replace BT := Lib.hid (BT.out.below (bVG18.mono K.out.size))
  replace K := Lib.hid (K.out.trans (bVG18.mono K.out.size))
  replace S := Lib.hid (S.out.below bVG18)
  replace G3 := Lib.hid (Tx.blk_on bVG18 G3.out)
  replace L := Lib.hid (L.out.below bVG18)
  replace G5 := Lib.hid (Tx.blk_on bVG18 G5.out)
  replace M := Lib.hid (M.out.below bVG18)
  replace G7 := Lib.hid (Tx.blk_on bVG18 G7.out)
  replace O := Lib.hid (O.out.below bVG18)
  replace G9 := Lib.hid (Tx.blk_on bVG18 G9.out)
  replace G11 := Lib.hid (Tx.blk_on bVG18 G11.out)
  replace G13 := Lib.hid (Tx.blk_on bVG18 G13.out)
  replace G14 := Lib.hid (Tx.blk_on bVG18 G14.out)
  replace G16 := Lib.hid (Tx.blk_on bVG18 G16.out)
  replace G17 := Lib.hid (Tx.blk_on bVG18 G17.out)
  have G18 : Hid (VG18.heap[w8.heap.size]? = some (.cells #[.int .i64 vu, .int .i64 vs, .int .i64 vh, .int .i64 va, .int .i64 vn] 27)) := by rw [← hVG18]; exact Tx.heap1 w8 _
  have sVG18 : w8.heap.size < VG18.heap.size := by rw [← hVG18]; simp
  clear bVG18
  obtain ⟨⟨c0, c1, c2, c3, c4⟩, _⟩ := Tx.blk5 G3.out
  go_wp2_with fail
  clear c0 c1 c2 c3 c4
  clear hVG18
  have hP := Tx.PutAll_spec ⟨⟨ru, rs, rh, ra⟩, rn⟩ _ _ cS ss _ (Tx.madeS_strs S.out) (by omega)
  unfold Tx.PutAllOut at hP
  rw [HX.out, HBS.out] at hP
  refine hP.mono ?_
  clear hP
  rintro e w9 ⟨gw, cw, rfl, hM, b⟩
  rw [HVx.out]
  have N := Lib.hid hM
  clear hM
  have z9 := b.size
  replace BT := Lib.hid (BT.out.below (b.mono K.out.size))
  replace K := Lib.hid (K.out.trans (b.mono K.out.size))
  replace S := Lib.hid (S.out.below b)
  replace G3 := Lib.hid (Tx.blk_on b G3.out)
  replace L := Lib.hid (L.out.below b)
  replace G5 := Lib.hid (Tx.blk_on b G5.out)
  replace M := Lib.hid (M.out.below b)
  replace G7 := Lib.hid (Tx.blk_on b G7.out)
  replace O := Lib.hid (O.out.below b)
  replace G9 := Lib.hid (Tx.blk_on b G9.out)
  replace G11 := Lib.hid (Tx.blk_on b G11.out)
  replace G13 := Lib.hid (Tx.blk_on b G13.out)
  replace G14 := Lib.hid (Tx.blk_on b G14.out)
  replace G16 := Lib.hid (Tx.blk_on b G16.out)
  replace G17 := Lib.hid (Tx.blk_on b G17.out)
  replace G18 := Lib.hid (Tx.blk_on b G18.out)
  clear b
  obtain ⟨VG21, hVG21⟩ : ∃ W, w9.alloc (.cells #[.int .i64 xu, .int .i64 xs, .int .i64 xh, .int .i64 xa, .int .i64 xn] 27) = W := ⟨_, rfl⟩
  have bVG21 : Below w9.heap.size w9 VG21 := hVG21 ▸ (Below.refl _ w9).alloc (Nat.le_refl _) _
  replace BT := Lib.hid (BT.out.below (bVG21.mono K.out.size))
  replace K := Lib.hid (K.out.trans (bVG21.mono K.out.size))
  replace S := Lib.hid (S.out.below bVG21)
  replace G3 := Lib.hid (Tx.blk_on bVG21 G3.out)
  replace L := Lib.hid (L.out.below bVG21)
  replace G5 := Lib.hid (Tx.blk_on bVG21 G5.out)
  replace M := Lib.hid (M.out.below bVG21)
  replace G7 := Lib.hid (Tx.blk_on bVG21 G7.out)
  replace O := Lib.hid (O.out.below bVG21)
  replace G9 := Lib.hid (Tx.blk_on bVG21 G9.out)
  replace G11 := Lib.hid (Tx.blk_on bVG21 G11.out)
  replace G13 := Lib.hid (Tx.blk_on bVG21 G13.out)
  replace G14 := Lib.hid (Tx.blk_on bVG21 G14.out)
  replace G16 := Lib.hid (Tx.blk_on bVG21 G16.out)
  replace G17 := Lib.hid (Tx.blk_on bVG21 G17.out)
  replace G18 := Lib.hid (Tx.blk_on bVG21 G18.out)
  replace N := Lib.hid (N.out.below bVG21)
  have G21 : Hid (VG21.heap[w9.heap.size]? = some (.cells #[.int .i64 xu, .int .i64 xs, .int .i64 xh, .int .i64 xa, .int .i64 xn] 27)) := by rw [← hVG21]; exact Tx.heap1 w9 _
  have sVG21 : w9.heap.size < VG21.heap.size := by rw [← hVG21]; simp
  clear bVG21
  obtain ⟨okr, hokr⟩ : ∃ x, Tx.rowOkB ⟨⟨ru, rs, rh, ra⟩, rn⟩ = x := ⟨_, rfl⟩
  have HOKR := Lib.hid hokr
  have cA : ∀ w' : World, Calls Try.prog 20 #[.agg #[.int .i64 ru, .int .i64 rs, .int .i64 rh, .int .i64 ra, .int .i64 rn]] w' fun e w'' => e = .returned (.bool okr) ∧ Below w'.heap.size w' w'' := fun w' => by have h1 := Tx.RowOk_impl ⟨⟨ru, rs, rh, ra⟩, rn⟩ w'; rw [hokr] at h1; exact h1
  have cB : ∀ w' : World, Calls Try.prog 21 #[.agg #[.int .i64 ru, .int .i64 rs, .int .i64 rh, .int .i64 ra, .int .i64 rn]] w' fun e w'' => e = .returned (.bool okr) ∧ Below w'.heap.size w' w'' := fun w' => by have h1 := Tx.RowOk_spec ⟨⟨ru, rs, rh, ra⟩, rn⟩ w'; rw [hokr] at h1; exact h1
  clear hokr
  have er := eq_row_self xu xs xh xa xn
  have f3 : ∀ q : Tx.Later VG21, _ := fun q => (Tx.blk5 (q.block G3.out)).1
  have f5 : ∀ q : Tx.Later VG21, _ := fun q => (Tx.blk5 (q.block G5.out)).1
  have f21 : ∀ q : Tx.Later VG21, _ := fun q => (Tx.blk5 (q.block G21.out)).1
  have HL1 := Lib.hid (Tx.MadeB.bxs L.out)
  have HN1 := Lib.hid (Tx.MadeB.bxs N.out)
  have hbb : (okr != okr) = false := by cases okr <;> rfl
  go_wp2
  clear hVG21
  refine Tx.wp_region_later (W := VG21) (Below.refl _ _) (by kernel_rfl) (by kernel_rfl) ?_
  repeat (go_big_quiet_step ((first | (go_at_call 19; exact Tx.calls_later (Tx.likeBoxes_same _ _ bs.length _ _ bs _ ((HL1.out.below (Tx.Later.bel _)).mono (Tx.Later.bel _).size) ((HN1.out.below (Tx.Later.bel _)).mono (Tx.Later.bel _).size) (by omega))) | (go_at_call 20; exact Tx.calls_later (cA _)) | (go_at_call 21; exact Tx.calls_later (cB _)))))
  refine wpQuiet_nil ?_
  rintro _ ⟨⟨w10, b⟩, rfl⟩
  clear f3 f5 f21 HL1 HN1 cA cB
  have z10 := b.size
  replace BT := Lib.hid (BT.out.below (b.mono K.out.size))
  replace K := Lib.hid (K.out.trans (b.mono K.out.size))
  replace S := Lib.hid (S.out.below b)
  replace G3 := Lib.hid (Tx.blk_on b G3.out)
  replace L := Lib.hid (L.out.below b)
  replace G5 := Lib.hid (Tx.blk_on b G5.out)
  replace M := Lib.hid (M.out.below b)
  replace G7 := Lib.hid (Tx.blk_on b G7.out)
  replace O := Lib.hid (O.out.below b)
  replace G9 := Lib.hid (Tx.blk_on b G9.out)
  replace G11 := Lib.hid (Tx.blk_on b G11.out)
  replace G13 := Lib.hid (Tx.blk_on b G13.out)
  replace G14 := Lib.hid (Tx.blk_on b G14.out)
  replace G16 := Lib.hid (Tx.blk_on b G16.out)
  replace G17 := Lib.hid (Tx.blk_on b G17.out)
  replace G18 := Lib.hid (Tx.blk_on b G18.out)
  replace N := Lib.hid (N.out.below b)
  replace G21 := Lib.hid (Tx.blk_on b G21.out)
  clear b
  obtain ⟨⟨c0, c1, c2, c3, c4⟩, _⟩ := Tx.blk5 G7.out
  go_wp2_with fail
  clear c0 c1 c2 c3 c4
  have hP := Tx.TakeAll_spec ⟨⟨qu, qs, qh, qa⟩, qn⟩ _ _ cm ms _ (Tx.MadeB.bxs M.out) (by omega)
  unfold Tx.TakeAllOut at hP
  rw [HY.out, HOS.out] at hP
  refine hP.mono ?_
  clear hP
  rintro e w11 ⟨gx, cx, rfl, hM, b⟩
  rw [HVy.out]
  have Pp := Lib.hid hM
  clear hM
  have z11 := b.size
  replace BT := Lib.hid (BT.out.below (b.mono K.out.size))
  replace K := Lib.hid (K.out.trans (b.mono K.out.size))
  replace S := Lib.hid (S.out.below b)
  replace G3 := Lib.hid (Tx.blk_on b G3.out)
  replace L := Lib.hid (L.out.below b)
  replace G5 := Lib.hid (Tx.blk_on b G5.out)
  replace M := Lib.hid (M.out.below b)
  replace G7 := Lib.hid (Tx.blk_on b G7.out)
  replace O := Lib.hid (O.out.below b)
  replace G9 := Lib.hid (Tx.blk_on b G9.out)
  replace G11 := Lib.hid (Tx.blk_on b G11.out)
  replace G13 := Lib.hid (Tx.blk_on b G13.out)
  replace G14 := Lib.hid (Tx.blk_on b G14.out)
  replace G16 := Lib.hid (Tx.blk_on b G16.out)
  replace G17 := Lib.hid (Tx.blk_on b G17.out)
  replace G18 := Lib.hid (Tx.blk_on b G18.out)
  replace N := Lib.hid (N.out.below b)
  replace G21 := Lib.hid (Tx.blk_on b G21.out)
  clear b
  obtain ⟨VG23, hVG23⟩ : ∃ W, w11.alloc (.cells #[.int .i64 yu, .int .i64 ys, .int .i64 yh, .int .i64 ya, .int .i64 yn] 27) = W := ⟨_, rfl⟩
  have bVG23 : Below w11.heap.size w11 VG23 := hVG23 ▸ (Below.refl _ w11).alloc (Nat.le_refl _) _
  replace BT := Lib.hid (BT.out.below (bVG23.mono K.out.size))
  replace K := Lib.hid (K.out.trans (bVG23.mono K.out.size))
  replace S := Lib.hid (S.out.below bVG23)
  replace G3 := Lib.hid (Tx.blk_on bVG23 G3.out)
  replace L := Lib.hid (L.out.below bVG23)
  replace G5 := Lib.hid (Tx.blk_on bVG23 G5.out)
  replace M := Lib.hid (M.out.below bVG23)
  replace G7 := Lib.hid (Tx.blk_on bVG23 G7.out)
  replace O := Lib.hid (O.out.below bVG23)
  replace G9 := Lib.hid (Tx.blk_on bVG23 G9.out)
  replace G11 := Lib.hid (Tx.blk_on bVG23 G11.out)
  replace G13 := Lib.hid (Tx.blk_on bVG23 G13.out)
  replace G14 := Lib.hid (Tx.blk_on bVG23 G14.out)
  replace G16 := Lib.hid (Tx.blk_on bVG23 G16.out)
  replace G17 := Lib.hid (Tx.blk_on bVG23 G17.out)
  replace G18 := Lib.hid (Tx.blk_on bVG23 G18.out)
  replace N := Lib.hid (N.out.below bVG23)
  replace G21 := Lib.hid (Tx.blk_on bVG23 G21.out)
  replace Pp := Lib.hid (Pp.out.below bVG23)
  have G23 : Hid (VG23.heap[w11.heap.size]? = some (.cells #[.int .i64 yu, .int .i64 ys, .int .i64 yh, .int .i64 ya, .int .i64 yn] 27)) := by rw [← hVG23]; exact Tx.heap1 w11 _
  have sVG23 : w11.heap.size < VG23.heap.size := by rw [← hVG23]; simp
  clear bVG23
  have ey := eq_row_self yu ys yh ya yn
  obtain ⟨⟨c0, c1, c2, c3, c4⟩, _⟩ := Tx.blk5 G23.out
  obtain ⟨⟨d0, d1, d2, d3, d4⟩, _⟩ := Tx.blk5 G9.out
  go_wp2_with fail
  clear c0 c1 c2 c3 c4 d0 d1 d2 d3 d4
  clear hVG23
  refine (Tx.likeTexts_any _ _ os.length os.length _ _ os os _ (Tx.madeS_strs O.out) (Tx.madeS_strs Pp.out) (by omega) (by omega)).mono ?_
  rintro e w12 ⟨he, q, hq⟩
  obtain rfl : e = .returned (.bool true) := by rw [he]; simp
  have b : Below VG23.heap.size VG23 w12 := by rw [hq]; exact Tx.drewN_below (Below.refl _ _) q
  clear he hq
  have z12 := b.size
  replace BT := Lib.hid (BT.out.below (b.mono K.out.size))
  replace K := Lib.hid (K.out.trans (b.mono K.out.size))
  replace S := Lib.hid (S.out.below b)
  replace G3 := Lib.hid (Tx.blk_on b G3.out)
  replace L := Lib.hid (L.out.below b)
  replace G5 := Lib.hid (Tx.blk_on b G5.out)
  replace M := Lib.hid (M.out.below b)
  replace G7 := Lib.hid (Tx.blk_on b G7.out)
  replace O := Lib.hid (O.out.below b)
  replace G9 := Lib.hid (Tx.blk_on b G9.out)
  replace G11 := Lib.hid (Tx.blk_on b G11.out)
  replace G13 := Lib.hid (Tx.blk_on b G13.out)
  replace G14 := Lib.hid (Tx.blk_on b G14.out)
  replace G16 := Lib.hid (Tx.blk_on b G16.out)
  replace G17 := Lib.hid (Tx.blk_on b G17.out)
  replace G18 := Lib.hid (Tx.blk_on b G18.out)
  replace N := Lib.hid (N.out.below b)
  replace G21 := Lib.hid (Tx.blk_on b G21.out)
  replace Pp := Lib.hid (Pp.out.below b)
  replace G23 := Lib.hid (Tx.blk_on b G23.out)
  clear b
  obtain ⟨⟨c0, c1, c2, c3, c4⟩, _⟩ := Tx.blk5 G11.out
  go_wp2_with fail
  clear c0 c1 c2 c3 c4
  refine (Tx.Put_spec ⟨⟨pu, ps, ph, pa⟩, pn⟩ pt _).mono ?_
  rintro e w13 ⟨rfl, b⟩
  rw [HZ.out, HBB.out, HIS.out, HVz.out, HVj.out]
  have z13 := b.size
  replace BT := Lib.hid (BT.out.below (b.mono K.out.size))
  replace K := Lib.hid (K.out.trans (b.mono K.out.size))
  replace S := Lib.hid (S.out.below b)
  replace G3 := Lib.hid (Tx.blk_on b G3.out)
  replace L := Lib.hid (L.out.below b)
  replace G5 := Lib.hid (Tx.blk_on b G5.out)
  replace M := Lib.hid (M.out.below b)
  replace G7 := Lib.hid (Tx.blk_on b G7.out)
  replace O := Lib.hid (O.out.below b)
  replace G9 := Lib.hid (Tx.blk_on b G9.out)
  replace G11 := Lib.hid (Tx.blk_on b G11.out)
  replace G13 := Lib.hid (Tx.blk_on b G13.out)
  replace G14 := Lib.hid (Tx.blk_on b G14.out)
  replace G16 := Lib.hid (Tx.blk_on b G16.out)
  replace G17 := Lib.hid (Tx.blk_on b G17.out)
  replace G18 := Lib.hid (Tx.blk_on b G18.out)
  replace N := Lib.hid (N.out.below b)
  replace G21 := Lib.hid (Tx.blk_on b G21.out)
  replace Pp := Lib.hid (Pp.out.below b)
  replace G23 := Lib.hid (Tx.blk_on b G23.out)
  clear b
  obtain ⟨VG26, hVG26⟩ : ∃ W, (w13.alloc (.cells #[.int .i64 zu, .int .i64 zs, .int .i64 zh, .int .i64 za, .int .i64 zn] 27)).alloc (.cells #[.int .i64 ju, .int .i64 js, .int .i64 jh, .int .i64 ja, .int .i64 jn, .string jt, .bool jp] 39) = W := ⟨_, rfl⟩
  have bVG26 : Below w13.heap.size w13 VG26 := hVG26 ▸ ((Below.refl _ w13).alloc (Nat.le_refl _) _).alloc (by simp) _
  replace BT := Lib.hid (BT.out.below (bVG26.mono K.out.size))
  replace K := Lib.hid (K.out.trans (bVG26.mono K.out.size))
  replace S := Lib.hid (S.out.below bVG26)
  replace G3 := Lib.hid (Tx.blk_on bVG26 G3.out)
  replace L := Lib.hid (L.out.below bVG26)
  replace G5 := Lib.hid (Tx.blk_on bVG26 G5.out)
  replace M := Lib.hid (M.out.below bVG26)
  replace G7 := Lib.hid (Tx.blk_on bVG26 G7.out)
  replace O := Lib.hid (O.out.below bVG26)
  replace G9 := Lib.hid (Tx.blk_on bVG26 G9.out)
  replace G11 := Lib.hid (Tx.blk_on bVG26 G11.out)
  replace G13 := Lib.hid (Tx.blk_on bVG26 G13.out)
  replace G14 := Lib.hid (Tx.blk_on bVG26 G14.out)
  replace G16 := Lib.hid (Tx.blk_on bVG26 G16.out)
  replace G17 := Lib.hid (Tx.blk_on bVG26 G17.out)
  replace G18 := Lib.hid (Tx.blk_on bVG26 G18.out)
  replace N := Lib.hid (N.out.below bVG26)
  replace G21 := Lib.hid (Tx.blk_on bVG26 G21.out)
  replace Pp := Lib.hid (Pp.out.below bVG26)
  replace G23 := Lib.hid (Tx.blk_on bVG26 G23.out)
  have G25 : Hid (VG26.heap[w13.heap.size]? = some (.cells #[.int .i64 zu, .int .i64 zs, .int .i64 zh, .int .i64 za, .int .i64 zn] 27)) := by rw [← hVG26]; exact Tx.heap2a w13 _ _
  have G26 : Hid (VG26.heap[w13.heap.size + 1]? = some (.cells #[.int .i64 ju, .int .i64 js, .int .i64 jh, .int .i64 ja, .int .i64 jn, .string jt, .bool jp] 39)) := by rw [← hVG26]; exact Tx.heap2b w13 _ _
  have sVG26 : w13.heap.size + 1 < VG26.heap.size := by rw [← hVG26]; simp
  clear bVG26
  have ez := eq_row_self zu zs zh za zn
  have eb := Tx.eq_box_self ju js jh ja jn jt jp
  have hii : (is != is) = false := by cases is <;> rfl
  obtain ⟨⟨c0, c1, c2, c3, c4⟩, _⟩ := Tx.blk5 G25.out
  obtain ⟨⟨d0, d1, d2, d3, d4⟩, _⟩ := Tx.blk5 G13.out
  obtain ⟨⟨e0, e1, e2, e3, e4, e5, e6⟩, _⟩ := Tx.blk7 G26.out
  obtain ⟨⟨f0, f1, f2, f3, f4, f5, f6⟩, _⟩ := Tx.blk7 G14.out
  obtain ⟨⟨g0, g1, g2, g3, g4⟩, _⟩ := Tx.blk5 G16.out
  obtain ⟨⟨k0, k1, k2, k3, k4, k5, k6⟩, _⟩ := Tx.blk7 G17.out
  go_wp2_with fail
  clear c0 c1 c2 c3 c4 d0 d1 d2 d3 d4 e0 e1 e2 e3 e4 e5 e6 f0 f1 f2 f3 f4 f5 f6 g0 g1 g2 g3 g4 k0 k1 k2 k3 k4 k5 k6
  clear hVG26
  refine (Tx.Take_spec ⟨⟨tu, ts, th, ta⟩, tn⟩ ⟨⟨cu, cs, ch, ca⟩, cn, ct, cp⟩ _).mono ?_
  rintro e w14 ⟨rfl, b⟩
  rw [HVV.out, HVT.out, HTK.out, HVv.out]
  have z14 := b.size
  replace BT := Lib.hid (BT.out.below (b.mono K.out.size))
  replace K := Lib.hid (K.out.trans (b.mono K.out.size))
  replace S := Lib.hid (S.out.below b)
  replace G3 := Lib.hid (Tx.blk_on b G3.out)
  replace L := Lib.hid (L.out.below b)
  replace G5 := Lib.hid (Tx.blk_on b G5.out)
  replace M := Lib.hid (M.out.below b)
  replace G7 := Lib.hid (Tx.blk_on b G7.out)
  replace O := Lib.hid (O.out.below b)
  replace G9 := Lib.hid (Tx.blk_on b G9.out)
  replace G11 := Lib.hid (Tx.blk_on b G11.out)
  replace G13 := Lib.hid (Tx.blk_on b G13.out)
  replace G14 := Lib.hid (Tx.blk_on b G14.out)
  replace G16 := Lib.hid (Tx.blk_on b G16.out)
  replace G17 := Lib.hid (Tx.blk_on b G17.out)
  replace G18 := Lib.hid (Tx.blk_on b G18.out)
  replace N := Lib.hid (N.out.below b)
  replace G21 := Lib.hid (Tx.blk_on b G21.out)
  replace Pp := Lib.hid (Pp.out.below b)
  replace G23 := Lib.hid (Tx.blk_on b G23.out)
  replace G25 := Lib.hid (Tx.blk_on b G25.out)
  replace G26 := Lib.hid (Tx.blk_on b G26.out)
  clear b
  obtain ⟨VG28, hVG28⟩ : ∃ W, w14.alloc (.cells #[.int .i64 vu, .int .i64 vs, .int .i64 vh, .int .i64 va, .int .i64 vn] 27) = W := ⟨_, rfl⟩
  have bVG28 : Below w14.heap.size w14 VG28 := hVG28 ▸ (Below.refl _ w14).alloc (Nat.le_refl _) _
  replace BT := Lib.hid (BT.out.below (bVG28.mono K.out.size))
  replace K := Lib.hid (K.out.trans (bVG28.mono K.out.size))
  replace S := Lib.hid (S.out.below bVG28)
  replace G3 := Lib.hid (Tx.blk_on bVG28 G3.out)
  replace L := Lib.hid (L.out.below bVG28)
  replace G5 := Lib.hid (Tx.blk_on bVG28 G5.out)
  replace M := Lib.hid (M.out.below bVG28)
  replace G7 := Lib.hid (Tx.blk_on bVG28 G7.out)
  replace O := Lib.hid (O.out.below bVG28)
  replace G9 := Lib.hid (Tx.blk_on bVG28 G9.out)
  replace G11 := Lib.hid (Tx.blk_on bVG28 G11.out)
  replace G13 := Lib.hid (Tx.blk_on bVG28 G13.out)
  replace G14 := Lib.hid (Tx.blk_on bVG28 G14.out)
  replace G16 := Lib.hid (Tx.blk_on bVG28 G16.out)
  replace G17 := Lib.hid (Tx.blk_on bVG28 G17.out)
  replace G18 := Lib.hid (Tx.blk_on bVG28 G18.out)
  replace N := Lib.hid (N.out.below bVG28)
  replace G21 := Lib.hid (Tx.blk_on bVG28 G21.out)
  replace Pp := Lib.hid (Pp.out.below bVG28)
  replace G23 := Lib.hid (Tx.blk_on bVG28 G23.out)
  replace G25 := Lib.hid (Tx.blk_on bVG28 G25.out)
  replace G26 := Lib.hid (Tx.blk_on bVG28 G26.out)
  have G28 : Hid (VG28.heap[w14.heap.size]? = some (.cells #[.int .i64 vu, .int .i64 vs, .int .i64 vh, .int .i64 va, .int .i64 vn] 27)) := by rw [← hVG28]; exact Tx.heap1 w14 _
  have sVG28 : w14.heap.size < VG28.heap.size := by rw [← hVG28]; simp
  clear bVG28
  have ev := eq_row_self vu vs vh va vn
  have htt : (took != took) = false := by cases took <;> rfl
  go_upto_region 21 with fail
  clear hVG28
  go_cut [183] (fun s wx => s = .bool false ∧ Hid (Below VG28.heap.size VG28 wx))
  case first =>
    obtain ⟨⟨c0, c1, c2, c3, c4⟩, _⟩ := Tx.blk5 G28.out
    obtain ⟨⟨d0, d1, d2, d3, d4⟩, _⟩ := Tx.blk5 G18.out
    obtain ⟨⟨g0, g1, g2, g3, g4⟩, _⟩ := Tx.blk5 G16.out
    cases took with
    | true =>
      obtain ⟨ex, _, hgo⟩ := Tx.take_true HTK.out
      have hrt : Tx.rowOkB ⟨⟨tu, ts, th, ta⟩, tn⟩ = true := by have := HTK.out; simp only [Tx.takeB, Bool.and_eq_true] at this; exact this.1
      obtain ⟨hn0, hn1⟩ := Tx.goes_range hgo hrt
      dsimp only at hn0 hn1
      have hvn : vn = tn + 1 := by have := congrArg RowV.no (HVV.out.symm.trans ex); exact this
      have hne : (vn != tn + 1) = false := by rw [hvn]; simp
      clear hvn ex
      go_wp2
      go_meet
      exact ⟨rfl, Below.refl _ _⟩
    | false =>
      go_wp2_with fail
      refine (Tx.RowOk_spec ⟨⟨tu, ts, th, ta⟩, tn⟩ _).mono ?_
      rintro e w15 ⟨rfl, b⟩
      have B15 := Lib.hid b
      obtain ⟨okt, hokt⟩ : ∃ x, Tx.rowOkB ⟨⟨tu, ts, th, ta⟩, tn⟩ = x := ⟨_, rfl⟩
      rw [hokt]
      cases okt with
      | true =>
        have ex := HVV.out.symm.trans (Tx.take_false hokt HTK.out)
        injection ex with ek en
        injection ek with e0 e1 e2 e3
        subst e0 e1 e2 e3 en
        obtain ⟨⟨k0, k1, k2, k3, k4⟩, _⟩ := Tx.blk5 (Tx.blk_on b G18.out)
        obtain ⟨⟨m0, m1, m2, m3, m4⟩, _⟩ := Tx.blk5 (Tx.blk_on b G16.out)
        clear b hokt
        go_wp2
        go_meet
        exact ⟨rfl, B15.out⟩
      | false =>
        clear b hokt
        go_wp2
        go_meet
        exact ⟨rfl, B15.out⟩
  case rest =>
    obtain ⟨rfl, B15⟩ := hcut
    have b := B15.out
    have z15 := b.size
    replace BT := Lib.hid (BT.out.below (b.mono K.out.size))
    replace K := Lib.hid (K.out.trans (b.mono K.out.size))
    replace S := Lib.hid (S.out.below b)
    replace G3 := Lib.hid (Tx.blk_on b G3.out)
    replace L := Lib.hid (L.out.below b)
    replace G5 := Lib.hid (Tx.blk_on b G5.out)
    replace M := Lib.hid (M.out.below b)
    replace G7 := Lib.hid (Tx.blk_on b G7.out)
    replace O := Lib.hid (O.out.below b)
    replace G9 := Lib.hid (Tx.blk_on b G9.out)
    replace G11 := Lib.hid (Tx.blk_on b G11.out)
    replace G13 := Lib.hid (Tx.blk_on b G13.out)
    replace G14 := Lib.hid (Tx.blk_on b G14.out)
    replace G16 := Lib.hid (Tx.blk_on b G16.out)
    replace G17 := Lib.hid (Tx.blk_on b G17.out)
    replace G18 := Lib.hid (Tx.blk_on b G18.out)
    replace N := Lib.hid (N.out.below b)
    replace G21 := Lib.hid (Tx.blk_on b G21.out)
    replace Pp := Lib.hid (Pp.out.below b)
    replace G23 := Lib.hid (Tx.blk_on b G23.out)
    replace G25 := Lib.hid (Tx.blk_on b G25.out)
    replace G26 := Lib.hid (Tx.blk_on b G26.out)
    replace G28 := Lib.hid (Tx.blk_on b G28.out)
    clear b
    clear B15
    generalize wc = w15 at z15 BT K S G3 L G5 M G7 O G9 G11 G13 G14 G16 G17 G18 N G21 Pp G23 G25 G26 G28 ⊢
    clear M
    clear G7
    clear O
    clear G9
    clear G11
    clear G13
    clear G14
    clear G16
    clear G17
    clear G18
    clear N
    clear G21
    clear Pp
    clear G23
    clear G25
    clear G26
    clear G28
    obtain ⟨⟨c0, c1, c2, c3, c4⟩, _⟩ := Tx.blk5 G3.out
    go_wp2_with fail
    clear c0 c1 c2 c3 c4
    refine (Tx.RowOk_spec ⟨⟨ru, rs, rh, ra⟩, rn⟩ _).mono ?_
    rintro e w16 ⟨rfl, b⟩
    rw [HOKR.out]
    have z16 := b.size
    replace BT := Lib.hid (BT.out.below (b.mono K.out.size))
    replace K := Lib.hid (K.out.trans (b.mono K.out.size))
    replace S := Lib.hid (S.out.below b)
    replace G3 := Lib.hid (Tx.blk_on b G3.out)
    replace L := Lib.hid (L.out.below b)
    replace G5 := Lib.hid (Tx.blk_on b G5.out)
    clear b
    cases okr with
    | false =>
      have hb0 : bs = [] := by rw [← HBS.out, HOKR.out]; rfl
      subst hb0
      go_wp2
      go_ret
      exact ⟨rfl, K.out⟩
    | true =>
      have HX2 : Hid (Tx.putAllR ⟨⟨ru, rs, rh, ra⟩, rn⟩ ss = ⟨⟨xu, xs, xh, xa⟩, xn⟩) := by have := HX.out; rwa [HOKR.out, if_pos rfl] at this
      have HB2 : Hid (Tx.putAllL ⟨⟨ru, rs, rh, ra⟩, rn⟩ ss = bs) := by have := HBS.out; rwa [HOKR.out, if_pos rfl] at this
      obtain ⟨W17, hW17⟩ : ∃ W, w16.alloc (.cells #[] 39) = W := ⟨_, rfl⟩
      have bW17 : Below w16.heap.size w16 W17 := hW17 ▸ (Below.refl _ w16).alloc (Nat.le_refl _) _
      replace BT := Lib.hid (BT.out.below (bW17.mono K.out.size))
      replace K := Lib.hid (K.out.trans (bW17.mono K.out.size))
      replace S := Lib.hid (S.out.below bW17)
      replace G3 := Lib.hid (Tx.blk_on bW17 G3.out)
      replace L := Lib.hid (L.out.below bW17)
      replace G5 := Lib.hid (Tx.blk_on bW17 G5.out)
      have E : Hid (W17.heap[w16.heap.size]? = some (.cells #[] 39)) := by rw [← hW17]; exact Tx.heap1 w16 _
      have sW17 : w16.heap.size < W17.heap.size := by rw [← hW17]; simp
      clear bW17
      have M0 : Hid (TwInv w w16.heap.size w1.heap.size w2.heap.size ⟨⟨ru, rs, rh, ra⟩, rn⟩ ⟨⟨xu, xs, xh, xa⟩, xn⟩ ss bs gS cS gl cl 0 (.slice (some ⟨w16.heap.size, 0, none⟩) 0 0) W17) := ⟨w16.heap.size, 0, rfl, Tx.madeG_nil E.out (Nat.le_refl _), S.out.mono (by omega), L.out.mono (by omega), G3.out, G5.out, K.out⟩
      clear BT E S L G3 G5 K
      go_wp2
      clear hW17
      go_loopw [31, 32] (fun v i wr => ∃ k : Nat, k ≤ bs.length ∧ i = .int .i64 k ∧ TwInv w w16.heap.size w1.heap.size w2.heap.size ⟨⟨ru, rs, rh, ra⟩, rn⟩ ⟨⟨xu, xs, xh, xa⟩, xn⟩ ss bs gS cS gl cl k v wr) (fun _ i _ => bs.length - (intOf i).toNat)
      case atStart => exact ⟨0, Nat.zero_le _, rfl, M0.out⟩
      case round =>
        obtain ⟨k, hk, rfl, gt, ct, rfl, hT, hS, hL, h3, h5, hK⟩ := hrel
        have T := Lib.hid hT
        have S := Lib.hid hS
        have L := Lib.hid hL
        have G3 := Lib.hid h3
        have G5 := Lib.hid h5
        have K := Lib.hid hK
        have hTb := hT.base
        have hLb := hL.base
        have hSb := hS.base
        have hsz := Tx.blk_in h3
        have hsz5 := Tx.blk_in h5
        clear hT hS hL h3 h5 hK
        by_cases hlt : k < bs.length
        · have hk0 : (0 : Int) ≤ (k : Int) := by omega
          have hkn : (k : Int) < (bs.length : Int) := by omega
          obtain ⟨xb, off, hxe, hxb, hxc⟩ := (Tx.MadeB.bxs L.out).2 (by omega)
          injection hxe with hxe
          injection hxe with hxe hxo _
          subst hxe hxo
          have hb8 := hxc k hlt
          rw [Nat.zero_add] at hb8
          obtain ⟨⟨⟨ju, js, jh, ja⟩, jn, jt, jp⟩, hj⟩ : ∃ x, bs[k]?.getD .zero = x := ⟨_, rfl⟩
          rw [hj] at hb8
          have hBw : w16.heap.size ≤ wr.heap.size := by omega
          have hglw : gl < w16.heap.size := by omega
          have fj : ∀ q : Tx.In (Tx.fromEnv wr w16.heap.size hBw), Tx.BoxAt q.w gl (k * 7) ⟨⟨ju, js, jh, ja⟩, jn, jt, jp⟩ := fun q => ⟨q.cellf hb8.1 hglw, q.cellf hb8.2.1 hglw, q.cellf hb8.2.2.1 hglw, q.cellf hb8.2.2.2.1 hglw, q.cellf hb8.2.2.2.2.1 hglw, q.cellf hb8.2.2.2.2.2.1 hglw, q.cellf hb8.2.2.2.2.2.2 hglw⟩
          unfold Tx.BoxAt at fj
          clear hxc hxb hb8
          obtain ⟨i0, by0, hi, hz0, hz1, hz2, hby⟩ := Tx.infoBoxE
          go_wp2
          refine Tx.wp_region_from (W := wr) w16.heap.size hBw (fun w' => Tx.MadeB w' w16.heap.size (tw (bs.take k)) gt ct) (fun w1 w2 _ h b => h.below b) (T.out.heap rfl) [0, 0, 0, 0, 0, 1, 0, 0, 0, 0, 0, 0, 0, 0, 2, 3, 0] (by kernel_rfl) (by kernel_rfl) (by kernel_rfl) ?_
          refine Tx.wpO_quiet 5 rfl (by kernel_rfl) ?_
          simp only [List.take, List.drop]
          repeat (go_big_quiet_step (fail))
          refine wpQuiet_nil ?_
          refine Tx.wpO_call (f := 26) (args := #[.agg #[.int .i64 ju, .int .i64 js, .int .i64 jh, .int .i64 ja, .int .i64 jn, .string jt, .bool jp]]) (.agg #[.int .i64 ju, .int .i64 js, .int .i64 jh, .int .i64 ja, .int .i64 jn, .string jt, .bool true]) rfl (fun w' => by simp [go_sem]) (fun w' _ _ => Tx.Spoil_impl ⟨⟨ju, js, jh, ja⟩, jn, jt, jp⟩ w') ?_
          simp only [Act.put, List.setIfInBounds_toArray, List.set_cons_succ, List.set_cons_zero]
          refine Tx.wpO_quiet 8 rfl (by kernel_rfl) ?_
          simp only [List.take, List.drop]
          repeat (go_big_quiet_step (fail))
          refine wpQuiet_nil ?_
          refine Tx.wpO_row (.cells #[.int .i64 ju, .int .i64 js, .int .i64 jh, .int .i64 ja, .int .i64 jn, .string jt, .bool true, .int .i64 ju, .int .i64 js, .int .i64 jh, .int .i64 ja, .int .i64 jn, .string jt, .bool jp, .int .i64 ju, .int .i64 js, .int .i64 jh, .int .i64 ja, .int .i64 jn, .string jt, .bool jp] 39) 3 rfl (fun w' => by simp [go_sem]) fun gn mgn hnn => ?_
          have hgn : wr.heap.size ≤ gn := mgn
          simp only [Act.put, List.setIfInBounds_toArray, List.set_cons_succ, List.set_cons_zero]
          refine Tx.wpO_append (fun _ => True) _ _ 31 rfl rfl w16.heap.size 39 i0 BoxV.zero.val 7 by0 Try.underlying31 hi hz0 hz1 hz2 rfl (by decide) (tw (bs.take k)).length ((tw (bs.take k)).flatMap BoxV.cells) gt ct rfl hTb.1 ⟨gn, 0, none⟩ 3 3 (BoxV.cells (BoxV.spoil ⟨⟨ju, js, jh, ja⟩, jn, jt, jp⟩) ++ (BoxV.cells ⟨⟨ju, js, jh, ja⟩, jn, jt, jp⟩ ++ BoxV.cells ⟨⟨ju, js, jh, ja⟩, jn, jt, jp⟩)) rfl rfl (fun u hu => by simp only [List.mem_append] at hu; rcases hu with h | h | h <;> exact Tx.cells_one _ u h) (by unfold maxLen; rw [tw_length, List.length_take]; omega) (by have h1 : ((tw (bs.take k)).length + 3) * by0 ≤ 100 * 100 := Nat.mul_le_mul (by rw [tw_length, List.length_take]; omega) hby; omega) hBw (fun _ h => h) (by omega) (fun w' _ hF => ⟨trivial, hF.1.own, fun j u hu => ?news⟩) Tx.stays_true (Tx.away_true _) (fun gt' ct' => ?_)
          case news => rw [Go.WideShapes.add_plain, Nat.zero_add, Tx.blk_cell hF.2]; show (List.toArray (BoxV.cells (BoxV.spoil ⟨⟨ju, js, jh, ja⟩, jn, jt, jp⟩) ++ (BoxV.cells ⟨⟨ju, js, jh, ja⟩, jn, jt, jp⟩ ++ BoxV.cells ⟨⟨ju, js, jh, ja⟩, jn, jt, jp⟩)))[j]? = some u; rw [List.getElem?_toArray]; exact hu
          simp only [Act.put, List.setIfInBounds_toArray, List.set_cons_succ, List.set_cons_zero]
          refine Tx.wpO_quiet 1 rfl (by kernel_rfl) ?_
          simp only [List.take, List.drop]
          repeat (go_big_quiet_step (fail))
          refine wpQuiet_nil ?_
          refine Tx.wpO_nil ?_
          rintro w18 b18 ⟨_, ht18⟩
          have b : Below w16.heap.size wr w18 := b18
          have hsz18 := b.size
          replace S := Lib.hid (S.out.heap (b.block gS (by omega)))
          replace L := Lib.hid (L.out.heap (b.block gl (by omega)))
          replace G3 := Lib.hid ((b.block w1.heap.size (by omega)).trans G3.out)
          replace G5 := Lib.hid ((b.block w2.heap.size (by omega)).trans G5.out)
          replace K := Lib.hid (K.out.trans (b.mono (by omega)))
          have etk : bs.take (k + 1) = bs.take k ++ [⟨⟨ju, js, jh, ja⟩, jn, jt, jp⟩] := by rw [← hj, List.getElem?_eq_getElem hlt, Option.getD_some]; exact List.take_succ_eq_append_getElem hlt
          have etw : tw (bs.take (k + 1)) = tw (bs.take k) ++ [BoxV.spoil ⟨⟨ju, js, jh, ja⟩, jn, jt, jp⟩, ⟨⟨ju, js, jh, ja⟩, jn, jt, jp⟩, ⟨⟨ju, js, jh, ja⟩, jn, jt, jp⟩] := by rw [etk, tw_snoc]
          have T' : Hid (Tx.MadeB w18 w16.heap.size (tw (bs.take (k + 1))) gt' ct') := by
            refine ⟨?_⟩
            have e1 : (tw (bs.take (k + 1))).length = (tw (bs.take k)).length + 3 := by rw [etw]; simp
            have e2 : (tw (bs.take (k + 1))).flatMap BoxV.cells = (tw (bs.take k)).flatMap BoxV.cells ++ (BoxV.cells (BoxV.spoil ⟨⟨ju, js, jh, ja⟩, jn, jt, jp⟩) ++ (BoxV.cells ⟨⟨ju, js, jh, ja⟩, jn, jt, jp⟩ ++ BoxV.cells ⟨⟨ju, js, jh, ja⟩, jn, jt, jp⟩)) := by rw [etw]; simp [List.flatMap_append]
            rw [e1, e2]
            exact ht18
          have HE : Hid ((tw (bs.take k)).length + 3 = (tw (bs.take (k + 1))).length) := by show _ = _; rw [etw]; simp
          rw [HE.out]
          clear b b18 ht18 etk etw fj T
          go_wp2
          go_roundw
          case rel => exact ⟨k + 1, by omega, by go_num, gt', ct', rfl, T'.out, S.out, L.out, G3.out, G5.out, K.out⟩
          case measure => simp [intOf]; omega
        · obtain rfl : k = bs.length := by omega
          have hlt' : ¬ (bs.length : Int) < (bs.length : Int) := by omega
          have etk : bs.take bs.length = bs := List.take_length
          rw [etk] at T
          have HE : Hid ((tw (bs.take bs.length)).length = (tw bs).length) := by show _ = _; rw [etk]
          rw [HE.out]
          clear etk
          have hba := back_again ss ⟨⟨ru, rs, rh, ra⟩, rn⟩ HOKR.out
          rw [HB2.out, HX2.out] at hba
          have hP := Tx.TakeAll_impl ⟨⟨ru, rs, rh, ra⟩, rn⟩ _ _ ct (tw bs) _ (Tx.MadeB.bxs T.out) (by rw [tw_length]; omega)
          unfold Tx.TakeAllOut at hP
          obtain ⟨ts, hts⟩ : ∃ ts, ss.take bs.length = ts := ⟨_, rfl⟩
          have HTS := Lib.hid hts
          rw [HOKR.out, if_pos rfl, if_pos rfl, hba.1, hba.2, hts] at hP
          have HP := Lib.hid hP
          have htl : ts.length ≤ 5 := by rw [← hts, List.length_take]; omega
          clear hP hba hts
          obtain ⟨⟨c0, c1, c2, c3, c4⟩, _⟩ := Tx.blk5 G3.out
          go_wp2_with fail
          clear c0 c1 c2 c3 c4
          refine HP.out.mono ?_
          clear HP
          rintro e w19 ⟨gy, cy, rfl, hM, b⟩
          rw [HVx.out]
          have Y := Lib.hid hM
          clear hM
          have z17 := b.size
          replace T := Lib.hid (T.out.below b)
          replace S := Lib.hid (S.out.below b)
          replace L := Lib.hid (L.out.below b)
          replace G3 := Lib.hid (Tx.blk_on b G3.out)
          replace G5 := Lib.hid (Tx.blk_on b G5.out)
          replace K := Lib.hid (K.out.trans (b.mono K.out.size))
          clear b
          obtain ⟨VG33, hVG33⟩ : ∃ W, w19.alloc (.cells #[.int .i64 xu, .int .i64 xs, .int .i64 xh, .int .i64 xa, .int .i64 xn] 27) = W := ⟨_, rfl⟩
          have bVG33 : Below w19.heap.size w19 VG33 := hVG33 ▸ (Below.refl _ w19).alloc (Nat.le_refl _) _
          replace T := Lib.hid (T.out.below bVG33)
          replace S := Lib.hid (S.out.below bVG33)
          replace L := Lib.hid (L.out.below bVG33)
          replace G3 := Lib.hid (Tx.blk_on bVG33 G3.out)
          replace G5 := Lib.hid (Tx.blk_on bVG33 G5.out)
          replace K := Lib.hid (K.out.trans (bVG33.mono K.out.size))
          replace Y := Lib.hid (Y.out.below bVG33)
          have G33 : Hid (VG33.heap[w19.heap.size]? = some (.cells #[.int .i64 xu, .int .i64 xs, .int .i64 xh, .int .i64 xa, .int .i64 xn] 27)) := by rw [← hVG33]; exact Tx.heap1 w19 _
          have sVG33 : w19.heap.size < VG33.heap.size := by rw [← hVG33]; simp
          clear bVG33
          have ex := eq_row_self xu xs xh xa xn
          have hcap := S.out.cap
          unfold maxLen at hcap
          have hle : (bs.length : Int) ≤ (ss.length : Int) := by omega
          obtain ⟨⟨c0, c1, c2, c3, c4⟩, _⟩ := Tx.blk5 G33.out
          obtain ⟨⟨d0, d1, d2, d3, d4⟩, _⟩ := Tx.blk5 G5.out
          go_wp2_with fail
          clear c0 c1 c2 c3 c4 d0 d1 d2 d3 d4
          clear hVG33
          have hs2 := (Tx.madeS_strs S.out).take bs.length hbl
          rw [HTS.out] at hs2
          refine (Tx.likeTexts_any (some ⟨gy, 0, none⟩) (some ⟨gS, 0, none⟩) ts.length bs.length cy cS ts ts _ (Tx.madeS_strs Y.out) hs2 (by omega) (by omega)).mono ?_
          rintro e w20 ⟨he, q, hq⟩
          obtain rfl : e = .returned (.bool true) := by rw [he]; simp
          have b : Below VG33.heap.size VG33 w20 := by rw [hq]; exact Tx.drewN_below (Below.refl _ _) q
          clear he hq
          have z18 := b.size
          replace T := Lib.hid (T.out.below b)
          replace S := Lib.hid (S.out.below b)
          replace L := Lib.hid (L.out.below b)
          replace G3 := Lib.hid (Tx.blk_on b G3.out)
          replace G5 := Lib.hid (Tx.blk_on b G5.out)
          replace K := Lib.hid (K.out.trans (b.mono K.out.size))
          replace Y := Lib.hid (Y.out.below b)
          replace G33 := Lib.hid (Tx.blk_on b G33.out)
          clear b
          go_wp2
          go_ret
          exact ⟨rfl, K.out⟩

theorem own : ownKnob Try.prog.godebug = none := by kernel_rfl
theorem laidOut : laidOutB Try.prog = true := by kernel_rfl

set_option maxRecDepth 100000 in
theorem lifted (os : Os) (started : os.Started) (H : Type) (enc : TypeId × Value → H) :
    ReturnsInHanded {} Try.checked os 3 .any (Rows.fnRowsSpec.pre6 enc Try.prog Try.f3 Rows.fnRowsRow.domain false) (Rows.fnRowsSpec.post enc Try.prog Try.f3 false true false false) := by
  refine returnsInHanded_of_change (C := Try.checked) own started (by kernel_rfl) Try.func3
    (ChangeSpec.witness6 (enc := enc) (C := Try.checked) false ⟨#[], #[.slice none 0 0], []⟩ 8 (by kernel_rfl) (by kernel_rfl) (by kernel_rfl) (by kernel_rfl)) ?_
  intro W base args ds gs before hval0 hW hcnd _
  have hval : ∀ (j : Nat) t v, Try.f3.params[j]? = some t → args[j]? = some v → Value.okWide Try.prog W .any base t v := hval0
  have hW' := hW
  obtain ⟨p, q, hA0, hV, rfl, hfz, hnd⟩ := hW
  have hA : DataW.TrodAll enc Try.prog W 0 (fun _ => true) true Try.f3.params.toList args.toList ds p := hA0
  rw [Try.params3] at hA hval
  obtain ⟨v0, vs0, d0, ds0, p0, q0, hargs, rfl, rfl, h0, r0⟩ := trodAll_cons hA
  obtain ⟨rfl, rfl, rfl⟩ := trodAll_nil r0
  obtain rfl : args = #[v0] := by cases args; simp_all
  obtain ⟨rfl, rfl⟩ := trodVars_none hV
  have k0 := h0
  have lt0 : ∀ x ∈ p0, x.block < W.heap.size := by obtain ⟨m, hm⟩ := k0; exact DataW.trod_lt m _ _ _ hm
  obtain ⟨a0, len0, cap0, rfl⟩ := okWide_slice Try.underlying22 (hval 0 22 v0 rfl rfl)
  have w0 : Tx.BytesAt W W.heap.size a0 len0 ∧ len0 ≤ maxLen := by
    obtain ⟨fuel, hf⟩ := h0
    rcases open_ints Try.underlying22 Try.underlying5 (by kernel_rfl) hf with ⟨hcs, _⟩ | ⟨x, l, c, zs, hcs, _, hl, hm, hz, _, hcell, hwz⟩
    · simp [Value.cells] at hcs
      obtain ⟨rfl, rfl, rfl⟩ := hcs
      exact ⟨fun h => absurd h (by omega), by unfold maxLen; omega⟩
    · simp [Value.cells] at hcs
      obtain ⟨rfl, rfl, rfl⟩ := hcs
      simp only [if_true] at hz
      exact ⟨Tx.bytesAt_of_ints (by omega) hcell fun n hn => bounds_u8 (hwz n hn), by omega⟩
  clear hA0 hval0
  refine (walk W a0 len0 cap0 w0.1 w0.2).mono fun e W' ⟨he, bel⟩ => ?_
  subst he
  exact ⟨_, rfl, _, _, _, [], _, [], hW', trodAll_mk1 (shut_bool Try.underlying4 _), (trodAll_cons_mk (Below.trod laidOut (by kernel_rfl) (of_decide_eq_true (by kernel_rfl)) k0 bel lt0) trodAll_mk0), rfl, bel.frame _, fun h => by cases h⟩

theorem over : Rows.fnRowsRow.holds Try.pinned (OpenSpec.ofChange Rows.fnRowsSpec) :=
  OpenClaim.holds_of_wide 3 Try.f3 rfl rfl rfl rfl rfl rfl rfl ⟨rfl, rfl, rfl, rfl, rfl⟩ rfl rfl rfl rfl rfl (by kernel_rfl) Try.func3 (by kernel_rfl)
    (of_decide_eq_true (by kernel_rfl)) (by unfold Func.isWrapper; first | (rw [if_pos (by decide +kernel)]; kernel_rfl) | (rw [if_neg (by decide +kernel)]; exact ⟨rfl, rfl⟩))
    (fun os started H enc _ => lifted os started H enc)

end Go.Proofs.Ythkgidibonkfbaa.fnRows

namespace Go.Proofs.Ythkgidibonkfbaa
theorem fnRows_proved : Rows.FnRowsSaid := fnRows.over
#print axioms fnRows_proved
end Go.Proofs.Ythkgidibonkfbaa

/-
  What the model draws for chapter 11: an answer and a secret. Condition: the draw's code has at most 4096 bytes.
-/
import Derived.Test.YtdnkpdfhnpmhbaaDoorAns2
import Derived.Test.YtdnkpdfhnpmhbaaDoorDraw4
import Derived.Test.YtdnkpdfhnpmhbaaDoorOffs
namespace Go.Proofs.YtdnkpdfhnpmhbaaDoor.Tx
open Go.RowKit

/-- What a draw of an answer and a secret leaves. -/
def AnsDrawn (w : World) (g : Nat) (A : Option Addr) (n cap : Nat) (e : Ending) (w' : World) : Prop :=
  ∃ (a : AnsV) (s i h : Int), (0 ≤ a.p ∧ a.p ≤ 5) ∧ e = .returned (.tuple #[a.val, .int .i64 s]) ∧ Cur w' g A n cap i h ∧ w.grownBy w' (some g)
/-- What the draws at the face leave. -/
def AnsingOut (w : World) (e : Ending) (w' : World) : Prop := ∃ h d p s : Int, (0 ≤ p ∧ p ≤ 5) ∧ e = .returned (.tuple #[.int .i64 h, .int .i64 d, .int .i64 p, .int .i64 s]) ∧ Below w.heap.size w w'
def ProvesOut (w : World) (e : Ending) (w' : World) : Prop := ∃ (a : AnsV) (s : Int), (0 ≤ a.p ∧ a.p ≤ 5) ∧ e = .returned (.tuple #[a.val, .int .i64 s]) ∧ Below w.heap.size w w'

set_option maxRecDepth 100000 in
set_option maxHeartbeats 16000000 in
theorem l11Draw_any (w : World) (g : Nat) (A : Option Addr) (n cap : Nat) (i h : Int) (hn : n ≤ 4096) (c : Cur w g A n cap i h) :
    Calls Tryd.prog 46 #[.pointer (some ⟨g, 0, none⟩)] w (AnsDrawn w g A n cap) := by
  have hg := c.lt
  have C := Lib.hid c
  clear c
  have G := Lib.hid (only_refl w g)
  obtain ⟨V0, hV0⟩ : ∃ W, w.alloc (.cells #[.int .i64 0, .int .i64 0, .int .i64 0, .int .i64 0, .int .i64 0, .int .i64 0, .int .i64 0, .int .i64 0, .string ⟨#[]⟩, .bool false] 31) = W := ⟨_, rfl⟩
  replace G := Lib.hid (only_alloc G.out (.cells #[.int .i64 0, .int .i64 0, .int .i64 0, .int .i64 0, .int .i64 0, .int .i64 0, .int .i64 0, .int .i64 0, .string ⟨#[]⟩, .bool false] 31))
  replace C := Lib.hid (C.out.alloc (.cells #[.int .i64 0, .int .i64 0, .int .i64 0, .int .i64 0, .int .i64 0, .int .i64 0, .int .i64 0, .int .i64 0, .string ⟨#[]⟩, .bool false] 31))
  have R0 := Lib.hid (heap1 w (.cells #[.int .i64 0, .int .i64 0, .int .i64 0, .int .i64 0, .int .i64 0, .int .i64 0, .int .i64 0, .int .i64 0, .string ⟨#[]⟩, .bool false] 31))
  rw [hV0] at G C R0
  have sV0 : w.heap.size < V0.heap.size := by rw [← hV0]; simp
  go_enter Tryd.func46, Tryd.ntmps46
  go_wp2_with fail
  clear hV0
  refine (l2Draw_any _ g A n cap i h hn C.out).mono ?_
  rintro e w1 ⟨s, i1, h1, ⟨_, _⟩, rfl, c, b⟩
  replace G := Lib.hid (only_trans G.out b)
  replace C := Lib.hid c
  replace R0 := Lib.hid (blk_kept b R0.out (by omega))
  have sw1 := b.size
  clear b c
  go_wp2_with fail
  refine (l1Below_any _ g A n cap i1 h1 4 hn (by omega) (by omega) C.out).mono ?_
  rintro e w2 ⟨u, i2, h2, ⟨hu0, hu1⟩, rfl, c, b⟩
  replace G := Lib.hid (only_trans G.out b)
  replace C := Lib.hid c
  replace R0 := Lib.hid (blk_kept b R0.out (by omega))
  have sw2 := b.size
  clear b c
  by_cases hu : u = 0
  · subst hu
    go_wp2_with fail
    refine (l2Draw_any _ g A n cap i2 h2 hn C.out).mono ?_
    rintro e w3 ⟨d1, i3, h3, ⟨_, _⟩, rfl, c, b⟩
    replace G := Lib.hid (only_trans G.out b)
    replace C := Lib.hid c
    replace R0 := Lib.hid (blk_kept b R0.out (by omega))
    have sw3 := b.size
    clear b c
    go_wp2_with fail
    refine (l2Draw_any _ g A n cap i3 h3 hn C.out).mono ?_
    rintro e w4 ⟨d2, i4, h4, ⟨_, _⟩, rfl, c, b⟩
    replace G := Lib.hid (only_trans G.out b)
    replace C := Lib.hid c
    replace R0 := Lib.hid (blk_kept b R0.out (by omega))
    have sw4 := b.size
    clear b c
    go_wp2_with fail
    refine (Answering_spec d1 d2 (1) (0) ⟨by omega, by omega⟩ _).mono ?_
    rintro e w5 ⟨rfl, b⟩
    replace G := Lib.hid (only_below G.out b)
    replace C := Lib.hid (C.out.below (b.mono C.out.lt))
    replace R0 := Lib.hid (blk_on b R0.out)
    have sw5 := b.size
    clear b
    obtain ⟨⟨ah, ad, ap, ⟨⟨xu, xs, xh, xa⟩, xn, xt, xp⟩⟩, ha⟩ : ∃ x, answerV d1 d2 (1) (0) = x := ⟨_, rfl⟩
    have hap : 0 ≤ ap ∧ ap ≤ 5 := by
      have h1 := answer_pick d1 d2 (1) (0)
      rw [ha] at h1
      dsimp only at h1
      omega
    rw [ha]
    clear ha
    have HV : Hid (AnsV.val ⟨ah, ad, ap, ⟨⟨xu, xs, xh, xa⟩, xn, xt, xp⟩⟩ = .agg #[.int .i64 ah, .int .i64 ad, .int .i64 ap, .int .i64 xu, .int .i64 xs, .int .i64 xh, .int .i64 xa, .int .i64 xn, .string xt, .bool xp]) := rfl
    rw [HV.out]
    clear HV
    obtain ⟨V6, hV6⟩ : ∃ W, w5.alloc (.cells #[.int .i64 0, .int .i64 0, .int .i64 0, .int .i64 0, .int .i64 0, .int .i64 0, .int .i64 0, .int .i64 0, .string ⟨#[]⟩, .bool false] 31) = W := ⟨_, rfl⟩
    replace G := Lib.hid (only_alloc G.out (.cells #[.int .i64 0, .int .i64 0, .int .i64 0, .int .i64 0, .int .i64 0, .int .i64 0, .int .i64 0, .int .i64 0, .string ⟨#[]⟩, .bool false] 31))
    replace C := Lib.hid (C.out.alloc (.cells #[.int .i64 0, .int .i64 0, .int .i64 0, .int .i64 0, .int .i64 0, .int .i64 0, .int .i64 0, .int .i64 0, .string ⟨#[]⟩, .bool false] 31))
    replace R0 := Lib.hid (alloc_blk (o := .cells #[.int .i64 0, .int .i64 0, .int .i64 0, .int .i64 0, .int .i64 0, .int .i64 0, .int .i64 0, .int .i64 0, .string ⟨#[]⟩, .bool false] 31) R0.out)
    have KA := Lib.hid (heap1 w5 (.cells #[.int .i64 0, .int .i64 0, .int .i64 0, .int .i64 0, .int .i64 0, .int .i64 0, .int .i64 0, .int .i64 0, .string ⟨#[]⟩, .bool false] 31))
    rw [hV6] at G C R0 KA
    have sV6 : w5.heap.size < V6.heap.size := by rw [← hV6]; simp
    have bq : Below w5.heap.size V6 (V6.setRow w5.heap.size #[.int .i64 ah, .int .i64 ad, .int .i64 ap, .int .i64 xu, .int .i64 xs, .int .i64 xh, .int .i64 xa, .int .i64 xn, .string xt, .bool xp]) := below_setRow (Below.refl _ _) (Nat.le_refl _) _
    have KA2 : Hid ((V6.setRow w5.heap.size #[.int .i64 ah, .int .i64 ad, .int .i64 ap, .int .i64 xu, .int .i64 xs, .int .i64 xh, .int .i64 xa, .int .i64 xn, .string xt, .bool xp]).heap[w5.heap.size]? = some (.cells #[.int .i64 ah, .int .i64 ad, .int .i64 ap, .int .i64 xu, .int .i64 xs, .int .i64 xh, .int .i64 xa, .int .i64 xn, .string xt, .bool xp] 31)) := setRow_heap _ _ _ _ _ _ KA.out
    replace R0 := Lib.hid (show (V6.setRow w5.heap.size #[.int .i64 ah, .int .i64 ad, .int .i64 ap, .int .i64 xu, .int .i64 xs, .int .i64 xh, .int .i64 xa, .int .i64 xn, .string xt, .bool xp]).heap[_]? = _ from (setRow_other _ _ _ _ (by omega)).trans R0.out)
    replace C := Lib.hid (C.out.below (bq.mono (by omega)))
    replace G := Lib.hid (only_from G.out (bq.mono (show w.heap.size ≤ w5.heap.size by omega)) (Nat.le_refl _))
    clear bq
    go_wp2_with (first | (refine wpList_store_row rfl 31 _ _ rfl (w5.heap.size) #[.int .i64 ah, .int .i64 ad, .int .i64 ap, .int .i64 xu, .int .i64 xs, .int .i64 xh, .int .i64 xa, .int .i64 xn, .string xt, .bool xp] rfl rfl 31 _ KA.out (by kernel_rfl) rfl (by simp [Value.oneCell']) ?_) | (refine wpList_load_row rfl 31 _ rfl (w5.heap.size) rfl 31 _ (0, 0) _ KA2.out Tryd.underlying31 rfl (by kernel_rfl) ?_) | (refine wpList_store_row rfl 31 _ _ rfl (w.heap.size) #[.int .i64 ah, .int .i64 ad, .int .i64 ap, .int .i64 xu, .int .i64 xs, .int .i64 xh, .int .i64 xa, .int .i64 xn, .string xt, .bool xp] rfl rfl 31 _ R0.out (by kernel_rfl) rfl (by simp [Value.oneCell']) ?_))
    have bs : Below w.heap.size (V6.setRow w5.heap.size #[.int .i64 ah, .int .i64 ad, .int .i64 ap, .int .i64 xu, .int .i64 xs, .int .i64 xh, .int .i64 xa, .int .i64 xn, .string xt, .bool xp]) ((V6.setRow w5.heap.size #[.int .i64 ah, .int .i64 ad, .int .i64 ap, .int .i64 xu, .int .i64 xs, .int .i64 xh, .int .i64 xa, .int .i64 xn, .string xt, .bool xp]).setRow w.heap.size #[.int .i64 ah, .int .i64 ad, .int .i64 ap, .int .i64 xu, .int .i64 xs, .int .i64 xh, .int .i64 xa, .int .i64 xn, .string xt, .bool xp]) := below_setRow (Below.refl _ _) (Nat.le_refl _) _
    exact row_ret2 (r := w.heap.size) (cs := #[.int .i64 ah, .int .i64 ad, .int .i64 ap, .int .i64 xu, .int .i64 xs, .int .i64 xh, .int .i64 xa, .int .i64 xn, .string xt, .bool xp]) rfl rfl rfl (setRow_heap _ _ _ _ _ _ R0.out) Tryd.underlying31 rfl (by kernel_rfl) rfl ⟨⟨ah, ad, ap, ⟨⟨xu, xs, xh, xa⟩, xn, xt, xp⟩⟩, s, i4, h4, hap, rfl, C.out.below (bs.mono (by omega)), only_from G.out bs (Nat.le_refl _)⟩
  · have hq : (1 + u == 1) = false := by rw [beq_eq_false_iff_ne]; omega
    go_wp2_with fail
    refine (l2Draw_any _ g A n cap i2 h2 hn C.out).mono ?_
    rintro e w3 ⟨d1, i3, h3, ⟨_, _⟩, rfl, c, b⟩
    replace G := Lib.hid (only_trans G.out b)
    replace C := Lib.hid c
    replace R0 := Lib.hid (blk_kept b R0.out (by omega))
    have sw3 := b.size
    clear b c
    go_wp2_with fail
    refine (l2Draw_any _ g A n cap i3 h3 hn C.out).mono ?_
    rintro e w4 ⟨d2, i4, h4, ⟨_, _⟩, rfl, c, b⟩
    replace G := Lib.hid (only_trans G.out b)
    replace C := Lib.hid c
    replace R0 := Lib.hid (blk_kept b R0.out (by omega))
    have sw4 := b.size
    clear b c
    go_wp2_with fail
    refine (Answering_spec d1 d2 (1 + u) (s) ⟨by omega, by omega⟩ _).mono ?_
    rintro e w5 ⟨rfl, b⟩
    replace G := Lib.hid (only_below G.out b)
    replace C := Lib.hid (C.out.below (b.mono C.out.lt))
    replace R0 := Lib.hid (blk_on b R0.out)
    have sw5 := b.size
    clear b
    obtain ⟨⟨ah, ad, ap, ⟨⟨xu, xs, xh, xa⟩, xn, xt, xp⟩⟩, ha⟩ : ∃ x, answerV d1 d2 (1 + u) (s) = x := ⟨_, rfl⟩
    have hap : 0 ≤ ap ∧ ap ≤ 5 := by
      have h1 := answer_pick d1 d2 (1 + u) (s)
      rw [ha] at h1
      dsimp only at h1
      omega
    rw [ha]
    clear ha
    have HV : Hid (AnsV.val ⟨ah, ad, ap, ⟨⟨xu, xs, xh, xa⟩, xn, xt, xp⟩⟩ = .agg #[.int .i64 ah, .int .i64 ad, .int .i64 ap, .int .i64 xu, .int .i64 xs, .int .i64 xh, .int .i64 xa, .int .i64 xn, .string xt, .bool xp]) := rfl
    rw [HV.out]
    clear HV
    obtain ⟨V6, hV6⟩ : ∃ W, w5.alloc (.cells #[.int .i64 0, .int .i64 0, .int .i64 0, .int .i64 0, .int .i64 0, .int .i64 0, .int .i64 0, .int .i64 0, .string ⟨#[]⟩, .bool false] 31) = W := ⟨_, rfl⟩
    replace G := Lib.hid (only_alloc G.out (.cells #[.int .i64 0, .int .i64 0, .int .i64 0, .int .i64 0, .int .i64 0, .int .i64 0, .int .i64 0, .int .i64 0, .string ⟨#[]⟩, .bool false] 31))
    replace C := Lib.hid (C.out.alloc (.cells #[.int .i64 0, .int .i64 0, .int .i64 0, .int .i64 0, .int .i64 0, .int .i64 0, .int .i64 0, .int .i64 0, .string ⟨#[]⟩, .bool false] 31))
    replace R0 := Lib.hid (alloc_blk (o := .cells #[.int .i64 0, .int .i64 0, .int .i64 0, .int .i64 0, .int .i64 0, .int .i64 0, .int .i64 0, .int .i64 0, .string ⟨#[]⟩, .bool false] 31) R0.out)
    have KA := Lib.hid (heap1 w5 (.cells #[.int .i64 0, .int .i64 0, .int .i64 0, .int .i64 0, .int .i64 0, .int .i64 0, .int .i64 0, .int .i64 0, .string ⟨#[]⟩, .bool false] 31))
    rw [hV6] at G C R0 KA
    have sV6 : w5.heap.size < V6.heap.size := by rw [← hV6]; simp
    have bq : Below w5.heap.size V6 (V6.setRow w5.heap.size #[.int .i64 ah, .int .i64 ad, .int .i64 ap, .int .i64 xu, .int .i64 xs, .int .i64 xh, .int .i64 xa, .int .i64 xn, .string xt, .bool xp]) := below_setRow (Below.refl _ _) (Nat.le_refl _) _
    have KA2 : Hid ((V6.setRow w5.heap.size #[.int .i64 ah, .int .i64 ad, .int .i64 ap, .int .i64 xu, .int .i64 xs, .int .i64 xh, .int .i64 xa, .int .i64 xn, .string xt, .bool xp]).heap[w5.heap.size]? = some (.cells #[.int .i64 ah, .int .i64 ad, .int .i64 ap, .int .i64 xu, .int .i64 xs, .int .i64 xh, .int .i64 xa, .int .i64 xn, .string xt, .bool xp] 31)) := setRow_heap _ _ _ _ _ _ KA.out
    replace R0 := Lib.hid (show (V6.setRow w5.heap.size #[.int .i64 ah, .int .i64 ad, .int .i64 ap, .int .i64 xu, .int .i64 xs, .int .i64 xh, .int .i64 xa, .int .i64 xn, .string xt, .bool xp]).heap[_]? = _ from (setRow_other _ _ _ _ (by omega)).trans R0.out)
    replace C := Lib.hid (C.out.below (bq.mono (by omega)))
    replace G := Lib.hid (only_from G.out (bq.mono (show w.heap.size ≤ w5.heap.size by omega)) (Nat.le_refl _))
    clear bq
    go_wp2_with (first | (refine wpList_store_row rfl 31 _ _ rfl (w5.heap.size) #[.int .i64 ah, .int .i64 ad, .int .i64 ap, .int .i64 xu, .int .i64 xs, .int .i64 xh, .int .i64 xa, .int .i64 xn, .string xt, .bool xp] rfl rfl 31 _ KA.out (by kernel_rfl) rfl (by simp [Value.oneCell']) ?_) | (refine wpList_load_row rfl 31 _ rfl (w5.heap.size) rfl 31 _ (0, 0) _ KA2.out Tryd.underlying31 rfl (by kernel_rfl) ?_) | (refine wpList_store_row rfl 31 _ _ rfl (w.heap.size) #[.int .i64 ah, .int .i64 ad, .int .i64 ap, .int .i64 xu, .int .i64 xs, .int .i64 xh, .int .i64 xa, .int .i64 xn, .string xt, .bool xp] rfl rfl 31 _ R0.out (by kernel_rfl) rfl (by simp [Value.oneCell']) ?_))
    have bs : Below w.heap.size (V6.setRow w5.heap.size #[.int .i64 ah, .int .i64 ad, .int .i64 ap, .int .i64 xu, .int .i64 xs, .int .i64 xh, .int .i64 xa, .int .i64 xn, .string xt, .bool xp]) ((V6.setRow w5.heap.size #[.int .i64 ah, .int .i64 ad, .int .i64 ap, .int .i64 xu, .int .i64 xs, .int .i64 xh, .int .i64 xa, .int .i64 xn, .string xt, .bool xp]).setRow w.heap.size #[.int .i64 ah, .int .i64 ad, .int .i64 ap, .int .i64 xu, .int .i64 xs, .int .i64 xh, .int .i64 xa, .int .i64 xn, .string xt, .bool xp]) := below_setRow (Below.refl _ _) (Nat.le_refl _) _
    exact row_ret2 (r := w.heap.size) (cs := #[.int .i64 ah, .int .i64 ad, .int .i64 ap, .int .i64 xu, .int .i64 xs, .int .i64 xh, .int .i64 xa, .int .i64 xn, .string xt, .bool xp]) rfl rfl rfl (setRow_heap _ _ _ _ _ _ R0.out) Tryd.underlying31 rfl (by kernel_rfl) rfl ⟨⟨ah, ad, ap, ⟨⟨xu, xs, xh, xa⟩, xn, xt, xp⟩⟩, s, i4, h4, hap, rfl, C.out.below (bs.mono (by omega)), only_from G.out bs (Nat.le_refl _)⟩

set_option maxRecDepth 100000 in
set_option maxHeartbeats 16000000 in
theorem l11DrawAny_any (w : World) (g : Nat) (A : Option Addr) (n cap : Nat) (i h : Int) (hn : n ≤ 4096) (c : Cur w g A n cap i h) :
    Calls Tryd.prog 26 #[.pointer (some ⟨g, 0, none⟩)] w (AnsDrawn w g A n cap) := by
  have hg := c.lt
  have C := Lib.hid c
  clear c
  have G := Lib.hid (only_refl w g)
  obtain ⟨V0, hV0⟩ : ∃ W, w.alloc (.cells #[.int .i64 0, .int .i64 0, .int .i64 0, .int .i64 0, .int .i64 0, .int .i64 0, .int .i64 0, .int .i64 0, .string ⟨#[]⟩, .bool false] 31) = W := ⟨_, rfl⟩
  replace G := Lib.hid (only_alloc G.out (.cells #[.int .i64 0, .int .i64 0, .int .i64 0, .int .i64 0, .int .i64 0, .int .i64 0, .int .i64 0, .int .i64 0, .string ⟨#[]⟩, .bool false] 31))
  replace C := Lib.hid (C.out.alloc (.cells #[.int .i64 0, .int .i64 0, .int .i64 0, .int .i64 0, .int .i64 0, .int .i64 0, .int .i64 0, .int .i64 0, .string ⟨#[]⟩, .bool false] 31))
  have R0 := Lib.hid (heap1 w (.cells #[.int .i64 0, .int .i64 0, .int .i64 0, .int .i64 0, .int .i64 0, .int .i64 0, .int .i64 0, .int .i64 0, .string ⟨#[]⟩, .bool false] 31))
  rw [hV0] at G C R0
  have sV0 : w.heap.size < V0.heap.size := by rw [← hV0]; simp
  go_enter Tryd.func26, Tryd.ntmps26
  go_wp2_with fail
  clear hV0
  refine (l11Draw_any _ g A n cap i h hn C.out).mono ?_
  rintro e w1 ⟨⟨ah, ad, ap, ⟨⟨xu, xs, xh, xa⟩, xn, xt, xp⟩⟩, s, i2, h2, hap, rfl, c, b⟩
  replace G := Lib.hid (only_trans G.out b)
  replace C := Lib.hid c
  replace R0 := Lib.hid (blk_kept b R0.out (by omega))
  have sw1 := b.size
  clear b c
  have hap0 : 0 ≤ ap := hap.1
  have hap1 : ap ≤ 5 := hap.2
  clear hap
  have HV : Hid (AnsV.val ⟨ah, ad, ap, ⟨⟨xu, xs, xh, xa⟩, xn, xt, xp⟩⟩ = .agg #[.int .i64 ah, .int .i64 ad, .int .i64 ap, .int .i64 xu, .int .i64 xs, .int .i64 xh, .int .i64 xa, .int .i64 xn, .string xt, .bool xp]) := rfl
  rw [HV.out]
  clear HV
  obtain ⟨V2, hV2⟩ : ∃ W, w1.alloc (.cells #[.int .i64 0, .int .i64 0, .int .i64 0, .int .i64 0, .int .i64 0, .int .i64 0, .int .i64 0, .int .i64 0, .string ⟨#[]⟩, .bool false] 31) = W := ⟨_, rfl⟩
  replace G := Lib.hid (only_alloc G.out (.cells #[.int .i64 0, .int .i64 0, .int .i64 0, .int .i64 0, .int .i64 0, .int .i64 0, .int .i64 0, .int .i64 0, .string ⟨#[]⟩, .bool false] 31))
  replace C := Lib.hid (C.out.alloc (.cells #[.int .i64 0, .int .i64 0, .int .i64 0, .int .i64 0, .int .i64 0, .int .i64 0, .int .i64 0, .int .i64 0, .string ⟨#[]⟩, .bool false] 31))
  replace R0 := Lib.hid (alloc_blk (o := .cells #[.int .i64 0, .int .i64 0, .int .i64 0, .int .i64 0, .int .i64 0, .int .i64 0, .int .i64 0, .int .i64 0, .string ⟨#[]⟩, .bool false] 31) R0.out)
  have KA := Lib.hid (heap1 w1 (.cells #[.int .i64 0, .int .i64 0, .int .i64 0, .int .i64 0, .int .i64 0, .int .i64 0, .int .i64 0, .int .i64 0, .string ⟨#[]⟩, .bool false] 31))
  rw [hV2] at G C R0 KA
  have sV2 : w1.heap.size < V2.heap.size := by rw [← hV2]; simp
  have KAo := KA
  have bs : Below w1.heap.size V2 (V2.setRow w1.heap.size #[.int .i64 ah, .int .i64 ad, .int .i64 ap, .int .i64 xu, .int .i64 xs, .int .i64 xh, .int .i64 xa, .int .i64 xn, .string xt, .bool xp]) := below_setRow (Below.refl _ _) (Nat.le_refl _) _
  have KA2 : Hid ((V2.setRow w1.heap.size #[.int .i64 ah, .int .i64 ad, .int .i64 ap, .int .i64 xu, .int .i64 xs, .int .i64 xh, .int .i64 xa, .int .i64 xn, .string xt, .bool xp]).heap[w1.heap.size]? = some (.cells #[.int .i64 ah, .int .i64 ad, .int .i64 ap, .int .i64 xu, .int .i64 xs, .int .i64 xh, .int .i64 xa, .int .i64 xn, .string xt, .bool xp] 31)) := setRow_heap _ _ _ _ _ _ KA.out
  have G2 := Lib.hid (only_from G.out (bs.mono (show w.heap.size ≤ w1.heap.size by omega)) (Nat.le_refl _))
  have C2 := Lib.hid (C.out.below (bs.mono (by omega)))
  have R02 := Lib.hid (show (V2.setRow w1.heap.size #[.int .i64 ah, .int .i64 ad, .int .i64 ap, .int .i64 xu, .int .i64 xs, .int .i64 xh, .int .i64 xa, .int .i64 xn, .string xt, .bool xp]).heap[_]? = _ from (setRow_other _ _ _ _ (by omega)).trans R0.out)
  have sR := bs.size
  go_wp2_with (refine wpList_store_row rfl 31 _ _ rfl (w1.heap.size) #[.int .i64 ah, .int .i64 ad, .int .i64 ap, .int .i64 xu, .int .i64 xs, .int .i64 xh, .int .i64 xa, .int .i64 xn, .string xt, .bool xp] rfl rfl 31 _ KAo.out (by kernel_rfl) rfl (by simp [Value.oneCell']) ?_)
  clear hV2
  generalize (V2.setRow w1.heap.size #[.int .i64 ah, .int .i64 ad, .int .i64 ap, .int .i64 xu, .int .i64 xs, .int .i64 xh, .int .i64 xa, .int .i64 xn, .string xt, .bool xp]) = S3 at KA2 G2 C2 R02 sR ⊢
  clear bs KAo KA G C R0
  have KA := KA2
  have G := G2
  have C := C2
  have R0 := R02
  clear KA2 G2 C2 R02
  refine (l1Once_any _ g A n cap i2 h2 5 hn (by omega) (by omega) C.out).mono ?_
  rintro e w4 ⟨o, i4, h4, rfl, c, b⟩
  replace G := Lib.hid (only_trans G.out b)
  replace C := Lib.hid c
  replace R0 := Lib.hid (blk_kept b R0.out (by omega))
  replace KA := Lib.hid (blk_kept b KA.out (by omega))
  have sw4 := b.size
  clear b c
  cases o with
  | false =>
    go_wp2_with (first | (refine wpList_load_row rfl 31 _ rfl (w1.heap.size) rfl 31 _ (0, 0) _ KA.out Tryd.underlying31 rfl (by kernel_rfl) ?_) | (refine wpList_store_row rfl 31 _ _ rfl (w.heap.size) #[.int .i64 ah, .int .i64 ad, .int .i64 ap, .int .i64 xu, .int .i64 xs, .int .i64 xh, .int .i64 xa, .int .i64 xn, .string xt, .bool xp] rfl rfl 31 _ R0.out (by kernel_rfl) rfl (by simp [Value.oneCell']) ?_))
    have bs : Below w.heap.size w4 (w4.setRow w.heap.size #[.int .i64 ah, .int .i64 ad, .int .i64 ap, .int .i64 xu, .int .i64 xs, .int .i64 xh, .int .i64 xa, .int .i64 xn, .string xt, .bool xp]) := below_setRow (Below.refl _ _) (Nat.le_refl _) _
    exact row_ret2 (r := w.heap.size) (cs := #[.int .i64 ah, .int .i64 ad, .int .i64 ap, .int .i64 xu, .int .i64 xs, .int .i64 xh, .int .i64 xa, .int .i64 xn, .string xt, .bool xp]) rfl rfl rfl (setRow_heap _ _ _ _ _ _ R0.out) Tryd.underlying31 rfl (by kernel_rfl) rfl ⟨⟨ah, ad, ap, ⟨⟨xu, xs, xh, xa⟩, xn, xt, xp⟩⟩, s, i4, h4, ⟨hap0, hap1⟩, rfl, C.out.below (bs.mono (by omega)), only_from G.out bs (Nat.le_refl _)⟩
  | true =>
    go_wp2_with fail
    refine (l1Below_any _ g A n cap i4 h4 5 hn (by omega) (by omega) C.out).mono ?_
    rintro e w5 ⟨v, i5, h5, ⟨hv0, hv1⟩, rfl, c, b⟩
    replace G := Lib.hid (only_trans G.out b)
    replace C := Lib.hid c
    replace R0 := Lib.hid (blk_kept b R0.out (by omega))
    replace KA := Lib.hid (blk_kept b KA.out (by omega))
    have sw5 := b.size
    clear b c
    have hv : v = 0 ∨ v = 1 ∨ v = 2 ∨ v = 3 ∨ v = 4 := by omega
    rcases hv with rfl | rfl | rfl | rfl | rfl
    · go_wp2_with fail
      refine (l2DrawAny_any _ g A n cap i5 h5 hn C.out).mono ?_
      rintro e w6 ⟨zz, i6, h6, ⟨_, _⟩, rfl, c, b⟩
      replace G := Lib.hid (only_trans G.out b)
      replace C := Lib.hid c
      replace R0 := Lib.hid (blk_kept b R0.out (by omega))
      replace KA := Lib.hid (blk_kept b KA.out (by omega))
      have sw6 := b.size
      clear b c
      obtain ⟨⟨e0, e1, e2, e3, e4, e5, e6, e7, e8, e9⟩, f0, f1, f2, f3, f4, f5, f6, f7, f8, f9⟩ := blk10 KA.out
      obtain ⟨W9, hW9q⟩ : ∃ W, setAll w6 w1.heap.size 0 [.int .i64 zz] = W := ⟨_, rfl⟩
      have hW9 : (w6.setCell ⟨w1.heap.size, 0, none⟩ (.int .i64 zz)) = W9 := hW9q
      replace G := Lib.hid (only_setAll (r := w1.heap.size) (by omega) [.int .i64 zz] 0 G.out)
      replace C := Lib.hid (Cur.farAll (r := w1.heap.size) (by omega) [.int .i64 zz] 0 C.out)
      replace R0 := Lib.hid (setAll_away (g := w1.heap.size) (by omega) [.int .i64 zz] 0 R0.out)
      have KAx := setAll_blk (w := w6) (g := w1.heap.size) [.int .i64 zz] 0 KA.out
      rw [hW9q] at G C R0 KAx
      have sW9 : w6.heap.size ≤ W9.heap.size := by rw [← hW9q]; exact (setAll_below (B := 0) (a := w6) (Nat.zero_le _) [.int .i64 zz] 0 (Below.refl _ _)).size
      replace KA : Hid (W9.heap[w1.heap.size]? = some (.cells #[.int .i64 zz, .int .i64 ad, .int .i64 ap, .int .i64 xu, .int .i64 xs, .int .i64 xh, .int .i64 xa, .int .i64 xn, .string xt, .bool xp] 31)) := by
        show _ = _
        rw [KAx]
        congr 2 <;> exact Array.toList_inj.1 ((overA_toList [.int .i64 zz] 0 _ (by simp)).trans rfl)
      clear KAx hW9q
      obtain ⟨⟨k0, k1, k2, k3, k4, k5, k6, k7, k8, k9⟩, _⟩ := blk10 KA.out
      go_wp2_with (first | (refine wpList_load_row rfl 31 _ rfl (w1.heap.size) rfl 31 _ (0, 0) _ KA.out Tryd.underlying31 rfl (by kernel_rfl) ?_) | (refine wpList_store_row rfl 31 _ _ rfl (w.heap.size) #[.int .i64 zz, .int .i64 ad, .int .i64 ap, .int .i64 xu, .int .i64 xs, .int .i64 xh, .int .i64 xa, .int .i64 xn, .string xt, .bool xp] rfl rfl 31 _ R0.out (by kernel_rfl) rfl (by simp [Value.oneCell']) ?_))
      have bs : Below w.heap.size W9 (W9.setRow w.heap.size #[.int .i64 zz, .int .i64 ad, .int .i64 ap, .int .i64 xu, .int .i64 xs, .int .i64 xh, .int .i64 xa, .int .i64 xn, .string xt, .bool xp]) := below_setRow (Below.refl _ _) (Nat.le_refl _) _
      exact row_ret2 (r := w.heap.size) (cs := #[.int .i64 zz, .int .i64 ad, .int .i64 ap, .int .i64 xu, .int .i64 xs, .int .i64 xh, .int .i64 xa, .int .i64 xn, .string xt, .bool xp]) rfl rfl rfl (setRow_heap _ _ _ _ _ _ R0.out) Tryd.underlying31 rfl (by kernel_rfl) rfl ⟨⟨zz, ad, ap, ⟨⟨xu, xs, xh, xa⟩, xn, xt, xp⟩⟩, s, i6, h6, ⟨hap0, hap1⟩, rfl, C.out.below (bs.mono (by omega)), only_from G.out bs (Nat.le_refl _)⟩
    · go_wp2_with fail
      refine (l2DrawAny_any _ g A n cap i5 h5 hn C.out).mono ?_
      rintro e w6 ⟨zz, i6, h6, ⟨_, _⟩, rfl, c, b⟩
      replace G := Lib.hid (only_trans G.out b)
      replace C := Lib.hid c
      replace R0 := Lib.hid (blk_kept b R0.out (by omega))
      replace KA := Lib.hid (blk_kept b KA.out (by omega))
      have sw6 := b.size
      clear b c
      obtain ⟨⟨e0, e1, e2, e3, e4, e5, e6, e7, e8, e9⟩, f0, f1, f2, f3, f4, f5, f6, f7, f8, f9⟩ := blk10 KA.out
      obtain ⟨W9, hW9q⟩ : ∃ W, setAll w6 w1.heap.size 1 [.int .i64 zz] = W := ⟨_, rfl⟩
      have hW9 : (w6.setCell ⟨w1.heap.size, 1, none⟩ (.int .i64 zz)) = W9 := hW9q
      replace G := Lib.hid (only_setAll (r := w1.heap.size) (by omega) [.int .i64 zz] 1 G.out)
      replace C := Lib.hid (Cur.farAll (r := w1.heap.size) (by omega) [.int .i64 zz] 1 C.out)
      replace R0 := Lib.hid (setAll_away (g := w1.heap.size) (by omega) [.int .i64 zz] 1 R0.out)
      have KAx := setAll_blk (w := w6) (g := w1.heap.size) [.int .i64 zz] 1 KA.out
      rw [hW9q] at G C R0 KAx
      have sW9 : w6.heap.size ≤ W9.heap.size := by rw [← hW9q]; exact (setAll_below (B := 0) (a := w6) (Nat.zero_le _) [.int .i64 zz] 1 (Below.refl _ _)).size
      replace KA : Hid (W9.heap[w1.heap.size]? = some (.cells #[.int .i64 ah, .int .i64 zz, .int .i64 ap, .int .i64 xu, .int .i64 xs, .int .i64 xh, .int .i64 xa, .int .i64 xn, .string xt, .bool xp] 31)) := by
        show _ = _
        rw [KAx]
        congr 2 <;> exact Array.toList_inj.1 ((overA_toList [.int .i64 zz] 1 _ (by simp)).trans rfl)
      clear KAx hW9q
      obtain ⟨⟨k0, k1, k2, k3, k4, k5, k6, k7, k8, k9⟩, _⟩ := blk10 KA.out
      go_wp2_with (first | (refine wpList_load_row rfl 31 _ rfl (w1.heap.size) rfl 31 _ (0, 0) _ KA.out Tryd.underlying31 rfl (by kernel_rfl) ?_) | (refine wpList_store_row rfl 31 _ _ rfl (w.heap.size) #[.int .i64 ah, .int .i64 zz, .int .i64 ap, .int .i64 xu, .int .i64 xs, .int .i64 xh, .int .i64 xa, .int .i64 xn, .string xt, .bool xp] rfl rfl 31 _ R0.out (by kernel_rfl) rfl (by simp [Value.oneCell']) ?_))
      have bs : Below w.heap.size W9 (W9.setRow w.heap.size #[.int .i64 ah, .int .i64 zz, .int .i64 ap, .int .i64 xu, .int .i64 xs, .int .i64 xh, .int .i64 xa, .int .i64 xn, .string xt, .bool xp]) := below_setRow (Below.refl _ _) (Nat.le_refl _) _
      exact row_ret2 (r := w.heap.size) (cs := #[.int .i64 ah, .int .i64 zz, .int .i64 ap, .int .i64 xu, .int .i64 xs, .int .i64 xh, .int .i64 xa, .int .i64 xn, .string xt, .bool xp]) rfl rfl rfl (setRow_heap _ _ _ _ _ _ R0.out) Tryd.underlying31 rfl (by kernel_rfl) rfl ⟨⟨ah, zz, ap, ⟨⟨xu, xs, xh, xa⟩, xn, xt, xp⟩⟩, s, i6, h6, ⟨hap0, hap1⟩, rfl, C.out.below (bs.mono (by omega)), only_from G.out bs (Nat.le_refl _)⟩
    · go_wp2_with fail
      refine (l1From_any _ g A n cap i5 h5 0 5 hn (by omega) (by omega) (by omega) (by omega) C.out).mono ?_
      rintro e w6 ⟨zz, i6, h6, ⟨hz0, hz1⟩, rfl, c, b⟩
      replace G := Lib.hid (only_trans G.out b)
      replace C := Lib.hid c
      replace R0 := Lib.hid (blk_kept b R0.out (by omega))
      replace KA := Lib.hid (blk_kept b KA.out (by omega))
      have sw6 := b.size
      clear b c
      obtain ⟨⟨e0, e1, e2, e3, e4, e5, e6, e7, e8, e9⟩, f0, f1, f2, f3, f4, f5, f6, f7, f8, f9⟩ := blk10 KA.out
      obtain ⟨W9, hW9q⟩ : ∃ W, setAll w6 w1.heap.size 2 [.int .i64 zz] = W := ⟨_, rfl⟩
      have hW9 : (w6.setCell ⟨w1.heap.size, 2, none⟩ (.int .i64 zz)) = W9 := hW9q
      replace G := Lib.hid (only_setAll (r := w1.heap.size) (by omega) [.int .i64 zz] 2 G.out)
      replace C := Lib.hid (Cur.farAll (r := w1.heap.size) (by omega) [.int .i64 zz] 2 C.out)
      replace R0 := Lib.hid (setAll_away (g := w1.heap.size) (by omega) [.int .i64 zz] 2 R0.out)
      have KAx := setAll_blk (w := w6) (g := w1.heap.size) [.int .i64 zz] 2 KA.out
      rw [hW9q] at G C R0 KAx
      have sW9 : w6.heap.size ≤ W9.heap.size := by rw [← hW9q]; exact (setAll_below (B := 0) (a := w6) (Nat.zero_le _) [.int .i64 zz] 2 (Below.refl _ _)).size
      replace KA : Hid (W9.heap[w1.heap.size]? = some (.cells #[.int .i64 ah, .int .i64 ad, .int .i64 zz, .int .i64 xu, .int .i64 xs, .int .i64 xh, .int .i64 xa, .int .i64 xn, .string xt, .bool xp] 31)) := by
        show _ = _
        rw [KAx]
        congr 2 <;> exact Array.toList_inj.1 ((overA_toList [.int .i64 zz] 2 _ (by simp)).trans rfl)
      clear KAx hW9q
      obtain ⟨⟨k0, k1, k2, k3, k4, k5, k6, k7, k8, k9⟩, _⟩ := blk10 KA.out
      go_wp2_with (first | (refine wpList_load_row rfl 31 _ rfl (w1.heap.size) rfl 31 _ (0, 0) _ KA.out Tryd.underlying31 rfl (by kernel_rfl) ?_) | (refine wpList_store_row rfl 31 _ _ rfl (w.heap.size) #[.int .i64 ah, .int .i64 ad, .int .i64 zz, .int .i64 xu, .int .i64 xs, .int .i64 xh, .int .i64 xa, .int .i64 xn, .string xt, .bool xp] rfl rfl 31 _ R0.out (by kernel_rfl) rfl (by simp [Value.oneCell']) ?_))
      have bs : Below w.heap.size W9 (W9.setRow w.heap.size #[.int .i64 ah, .int .i64 ad, .int .i64 zz, .int .i64 xu, .int .i64 xs, .int .i64 xh, .int .i64 xa, .int .i64 xn, .string xt, .bool xp]) := below_setRow (Below.refl _ _) (Nat.le_refl _) _
      exact row_ret2 (r := w.heap.size) (cs := #[.int .i64 ah, .int .i64 ad, .int .i64 zz, .int .i64 xu, .int .i64 xs, .int .i64 xh, .int .i64 xa, .int .i64 xn, .string xt, .bool xp]) rfl rfl rfl (setRow_heap _ _ _ _ _ _ R0.out) Tryd.underlying31 rfl (by kernel_rfl) rfl ⟨⟨ah, ad, zz, ⟨⟨xu, xs, xh, xa⟩, xn, xt, xp⟩⟩, s, i6, h6, ⟨hz0, hz1⟩, rfl, C.out.below (bs.mono (by omega)), only_from G.out bs (Nat.le_refl _)⟩
    · go_wp2_with fail
      refine (l4DrawAny_any _ g A n cap i5 h5 hn C.out).mono ?_
      rintro e w6 ⟨⟨⟨lu, ls, lh, la⟩, ln, lt, lp⟩, i6, h6, rfl, c, b⟩
      replace G := Lib.hid (only_trans G.out b)
      replace C := Lib.hid c
      replace R0 := Lib.hid (blk_kept b R0.out (by omega))
      replace KA := Lib.hid (blk_kept b KA.out (by omega))
      have sw6 := b.size
      clear b c
      have HW : Hid (BoxV.val ⟨⟨lu, ls, lh, la⟩, ln, lt, lp⟩ = .agg #[.int .i64 lu, .int .i64 ls, .int .i64 lh, .int .i64 la, .int .i64 ln, .string lt, .bool lp]) := rfl
      rw [HW.out]
      obtain ⟨⟨e0, e1, e2, e3, e4, e5, e6, e7, e8, e9⟩, f0, f1, f2, f3, f4, f5, f6, f7, f8, f9⟩ := blk10 KA.out
      obtain ⟨W9, hW9q⟩ : ∃ W, setAll w6 w1.heap.size 3 [.int .i64 lu, .int .i64 ls, .int .i64 lh, .int .i64 la, .int .i64 ln, .string lt, .bool lp] = W := ⟨_, rfl⟩
      have hW9 : (((((((w6.setCell ⟨w1.heap.size, 3, none⟩ (.int .i64 lu)).setCell ⟨w1.heap.size, 4, none⟩ (.int .i64 ls)).setCell ⟨w1.heap.size, 5, none⟩ (.int .i64 lh)).setCell ⟨w1.heap.size, 6, none⟩ (.int .i64 la)).setCell ⟨w1.heap.size, 7, none⟩ (.int .i64 ln)).setCell ⟨w1.heap.size, 8, none⟩ (.string lt)).setCell ⟨w1.heap.size, 9, none⟩ (.bool lp)) = W9 := hW9q
      replace G := Lib.hid (only_setAll (r := w1.heap.size) (by omega) [.int .i64 lu, .int .i64 ls, .int .i64 lh, .int .i64 la, .int .i64 ln, .string lt, .bool lp] 3 G.out)
      replace C := Lib.hid (Cur.farAll (r := w1.heap.size) (by omega) [.int .i64 lu, .int .i64 ls, .int .i64 lh, .int .i64 la, .int .i64 ln, .string lt, .bool lp] 3 C.out)
      replace R0 := Lib.hid (setAll_away (g := w1.heap.size) (by omega) [.int .i64 lu, .int .i64 ls, .int .i64 lh, .int .i64 la, .int .i64 ln, .string lt, .bool lp] 3 R0.out)
      have KAx := setAll_blk (w := w6) (g := w1.heap.size) [.int .i64 lu, .int .i64 ls, .int .i64 lh, .int .i64 la, .int .i64 ln, .string lt, .bool lp] 3 KA.out
      rw [hW9q] at G C R0 KAx
      have sW9 : w6.heap.size ≤ W9.heap.size := by rw [← hW9q]; exact (setAll_below (B := 0) (a := w6) (Nat.zero_le _) [.int .i64 lu, .int .i64 ls, .int .i64 lh, .int .i64 la, .int .i64 ln, .string lt, .bool lp] 3 (Below.refl _ _)).size
      replace KA : Hid (W9.heap[w1.heap.size]? = some (.cells #[.int .i64 ah, .int .i64 ad, .int .i64 ap, .int .i64 lu, .int .i64 ls, .int .i64 lh, .int .i64 la, .int .i64 ln, .string lt, .bool lp] 31)) := by
        show _ = _
        rw [KAx]
        congr 2 <;> exact Array.toList_inj.1 ((overA_toList [.int .i64 lu, .int .i64 ls, .int .i64 lh, .int .i64 la, .int .i64 ln, .string lt, .bool lp] 3 _ (by simp)).trans rfl)
      clear KAx hW9q
      obtain ⟨⟨k0, k1, k2, k3, k4, k5, k6, k7, k8, k9⟩, _⟩ := blk10 KA.out
      go_wp2_with (first | (refine wpList_load_row rfl 31 _ rfl (w1.heap.size) rfl 31 _ (0, 0) _ KA.out Tryd.underlying31 rfl (by kernel_rfl) ?_) | (refine wpList_store_row rfl 31 _ _ rfl (w.heap.size) #[.int .i64 ah, .int .i64 ad, .int .i64 ap, .int .i64 lu, .int .i64 ls, .int .i64 lh, .int .i64 la, .int .i64 ln, .string lt, .bool lp] rfl rfl 31 _ R0.out (by kernel_rfl) rfl (by simp [Value.oneCell']) ?_))
      have bs : Below w.heap.size W9 (W9.setRow w.heap.size #[.int .i64 ah, .int .i64 ad, .int .i64 ap, .int .i64 lu, .int .i64 ls, .int .i64 lh, .int .i64 la, .int .i64 ln, .string lt, .bool lp]) := below_setRow (Below.refl _ _) (Nat.le_refl _) _
      exact row_ret2 (r := w.heap.size) (cs := #[.int .i64 ah, .int .i64 ad, .int .i64 ap, .int .i64 lu, .int .i64 ls, .int .i64 lh, .int .i64 la, .int .i64 ln, .string lt, .bool lp]) rfl rfl rfl (setRow_heap _ _ _ _ _ _ R0.out) Tryd.underlying31 rfl (by kernel_rfl) rfl ⟨⟨ah, ad, ap, ⟨⟨lu, ls, lh, la⟩, ln, lt, lp⟩⟩, s, i6, h6, ⟨hap0, hap1⟩, rfl, C.out.below (bs.mono (by omega)), only_from G.out bs (Nat.le_refl _)⟩
    · obtain ⟨⟨e0, e1, e2, e3, e4, e5, e6, e7, e8, e9⟩, _⟩ := blk10 KA.out
      go_wp2_with fail
      clear e0 e1 e2 e3 e4 e5 e6 e7 e8 e9
      refine (Spoil_spec ⟨⟨xu, xs, xh, xa⟩, xn, xt, xp⟩ _).mono ?_
      rintro e w6 ⟨rfl, b⟩
      replace G := Lib.hid (only_below G.out b)
      replace C := Lib.hid (C.out.below (b.mono C.out.lt))
      replace R0 := Lib.hid (blk_on b R0.out)
      replace KA := Lib.hid (blk_on b KA.out)
      have sw6 := b.size
      clear b
      have HW : Hid (BoxV.val (BoxV.spoil ⟨⟨xu, xs, xh, xa⟩, xn, xt, xp⟩) = .agg #[.int .i64 xu, .int .i64 xs, .int .i64 xh, .int .i64 xa, .int .i64 xn, .string xt, .bool true]) := rfl
      rw [HW.out]
      obtain ⟨⟨e0, e1, e2, e3, e4, e5, e6, e7, e8, e9⟩, f0, f1, f2, f3, f4, f5, f6, f7, f8, f9⟩ := blk10 KA.out
      obtain ⟨W9, hW9q⟩ : ∃ W, setAll w6 w1.heap.size 3 [.int .i64 xu, .int .i64 xs, .int .i64 xh, .int .i64 xa, .int .i64 xn, .string xt, .bool true] = W := ⟨_, rfl⟩
      have hW9 : (((((((w6.setCell ⟨w1.heap.size, 3, none⟩ (.int .i64 xu)).setCell ⟨w1.heap.size, 4, none⟩ (.int .i64 xs)).setCell ⟨w1.heap.size, 5, none⟩ (.int .i64 xh)).setCell ⟨w1.heap.size, 6, none⟩ (.int .i64 xa)).setCell ⟨w1.heap.size, 7, none⟩ (.int .i64 xn)).setCell ⟨w1.heap.size, 8, none⟩ (.string xt)).setCell ⟨w1.heap.size, 9, none⟩ (.bool true)) = W9 := hW9q
      replace G := Lib.hid (only_setAll (r := w1.heap.size) (by omega) [.int .i64 xu, .int .i64 xs, .int .i64 xh, .int .i64 xa, .int .i64 xn, .string xt, .bool true] 3 G.out)
      replace C := Lib.hid (Cur.farAll (r := w1.heap.size) (by omega) [.int .i64 xu, .int .i64 xs, .int .i64 xh, .int .i64 xa, .int .i64 xn, .string xt, .bool true] 3 C.out)
      replace R0 := Lib.hid (setAll_away (g := w1.heap.size) (by omega) [.int .i64 xu, .int .i64 xs, .int .i64 xh, .int .i64 xa, .int .i64 xn, .string xt, .bool true] 3 R0.out)
      have KAx := setAll_blk (w := w6) (g := w1.heap.size) [.int .i64 xu, .int .i64 xs, .int .i64 xh, .int .i64 xa, .int .i64 xn, .string xt, .bool true] 3 KA.out
      rw [hW9q] at G C R0 KAx
      have sW9 : w6.heap.size ≤ W9.heap.size := by rw [← hW9q]; exact (setAll_below (B := 0) (a := w6) (Nat.zero_le _) [.int .i64 xu, .int .i64 xs, .int .i64 xh, .int .i64 xa, .int .i64 xn, .string xt, .bool true] 3 (Below.refl _ _)).size
      replace KA : Hid (W9.heap[w1.heap.size]? = some (.cells #[.int .i64 ah, .int .i64 ad, .int .i64 ap, .int .i64 xu, .int .i64 xs, .int .i64 xh, .int .i64 xa, .int .i64 xn, .string xt, .bool true] 31)) := by
        show _ = _
        rw [KAx]
        congr 2 <;> exact Array.toList_inj.1 ((overA_toList [.int .i64 xu, .int .i64 xs, .int .i64 xh, .int .i64 xa, .int .i64 xn, .string xt, .bool true] 3 _ (by simp)).trans rfl)
      clear KAx hW9q
      obtain ⟨⟨k0, k1, k2, k3, k4, k5, k6, k7, k8, k9⟩, _⟩ := blk10 KA.out
      go_wp2_with (first | (refine wpList_load_row rfl 31 _ rfl (w1.heap.size) rfl 31 _ (0, 0) _ KA.out Tryd.underlying31 rfl (by kernel_rfl) ?_) | (refine wpList_store_row rfl 31 _ _ rfl (w.heap.size) #[.int .i64 ah, .int .i64 ad, .int .i64 ap, .int .i64 xu, .int .i64 xs, .int .i64 xh, .int .i64 xa, .int .i64 xn, .string xt, .bool true] rfl rfl 31 _ R0.out (by kernel_rfl) rfl (by simp [Value.oneCell']) ?_))
      have bs : Below w.heap.size W9 (W9.setRow w.heap.size #[.int .i64 ah, .int .i64 ad, .int .i64 ap, .int .i64 xu, .int .i64 xs, .int .i64 xh, .int .i64 xa, .int .i64 xn, .string xt, .bool true]) := below_setRow (Below.refl _ _) (Nat.le_refl _) _
      exact row_ret2 (r := w.heap.size) (cs := #[.int .i64 ah, .int .i64 ad, .int .i64 ap, .int .i64 xu, .int .i64 xs, .int .i64 xh, .int .i64 xa, .int .i64 xn, .string xt, .bool true]) rfl rfl rfl (setRow_heap _ _ _ _ _ _ R0.out) Tryd.underlying31 rfl (by kernel_rfl) rfl ⟨⟨ah, ad, ap, ⟨⟨xu, xs, xh, xa⟩, xn, xt, true⟩⟩, s, i5, h5, ⟨hap0, hap1⟩, rfl, C.out.below (bs.mono (by omega)), only_from G.out bs (Nat.le_refl _)⟩

set_option maxRecDepth 100000 in
set_option maxHeartbeats 8000000 in
theorem DrawAnswering_any (w : World) (A : Option Addr) (n cap : Nat) (hn : n ≤ 4096) (hb : BytesAt w w.heap.size A n) :
    Calls Tryd.prog 7 #[.slice A n cap] w (AnsingOut w) := by
  have K := Lib.hid (Below.refl w.heap.size w)
  have BT := Lib.hid hb
  clear hb
  go_enter Tryd.func7, Tryd.ntmps7
  go_wp2_with fail
  refine (l1New_any _ A n cap hn (BT.out.up K.out.size)).mono ?_
  rintro e w1 ⟨rfl, h0, c, b⟩
  replace BT := Lib.hid (BT.out.below (b.mono K.out.size))
  replace K := Lib.hid (K.out.trans (b.mono K.out.size))
  have C := Lib.hid c
  have hcl := c.lt
  have sw1 := b.size
  have sK := K.out.size
  clear b c
  go_wp2_with fail
  refine (l1From_any _ _ A n cap 0 h0 0 5 hn (by omega) (by omega) (by omega) (by omega) C.out).mono ?_
  rintro e w2 ⟨p, i2, h2, ⟨hp0, hp1⟩, rfl, c, b⟩
  replace BT := Lib.hid (BT.out.below ((Below.refl _ _).grown b K.out.size (fun k e => by have e1 := Option.some.inj e; omega)))
  replace K := Lib.hid (below_off K.out b ⟨by omega, K.out.size⟩)
  replace C := Lib.hid c
  have sw2 := b.size
  clear b c
  go_wp2_with fail
  refine (l1Below_any _ _ A n cap i2 h2 3 hn (by omega) (by omega) C.out).mono ?_
  rintro e w3 ⟨s, i3, h3, ⟨_, _⟩, rfl, c, b⟩
  replace BT := Lib.hid (BT.out.below ((Below.refl _ _).grown b K.out.size (fun k e => by have e1 := Option.some.inj e; omega)))
  replace K := Lib.hid (below_off K.out b ⟨by omega, K.out.size⟩)
  replace C := Lib.hid c
  have sw3 := b.size
  clear b c
  cases hq : p == 1
  · go_wp2_with fail
    refine (l2DrawAny_any _ _ A n cap i3 h3 hn C.out).mono ?_
    rintro e w5 ⟨y, i5, h5, ⟨_, _⟩, rfl, c, b⟩
    replace BT := Lib.hid (BT.out.below ((Below.refl _ _).grown b K.out.size (fun k e => by have e1 := Option.some.inj e; omega)))
    replace K := Lib.hid (below_off K.out b ⟨by omega, K.out.size⟩)
    replace C := Lib.hid c
    have sw5 := b.size
    clear b c
    go_wp2_with fail
    refine (l2DrawAny_any _ _ A n cap i5 h5 hn C.out).mono ?_
    rintro e w6 ⟨d, i6, h6, ⟨_, _⟩, rfl, c, b⟩
    replace BT := Lib.hid (BT.out.below ((Below.refl _ _).grown b K.out.size (fun k e => by have e1 := Option.some.inj e; omega)))
    replace K := Lib.hid (below_off K.out b ⟨by omega, K.out.size⟩)
    replace C := Lib.hid c
    have sw6 := b.size
    clear b c
    go_wp2
    refine bodyPost_ret (v := .tuple #[.int .i64 y, .int .i64 d, .int .i64 p, .int .i64 s]) ?_ rfl ⟨y, d, p, s, ⟨hp0, hp1⟩, rfl, K.out⟩
    simp [results, Tryd.f7, go_sem]
  · go_wp2_with fail
    refine (l1Once_any _ _ A n cap i3 h3 4 hn (by omega) (by omega) C.out).mono ?_
    rintro e w4 ⟨o, i4, h4, rfl, c, b⟩
    replace BT := Lib.hid (BT.out.below ((Below.refl _ _).grown b K.out.size (fun k e => by have e1 := Option.some.inj e; omega)))
    replace K := Lib.hid (below_off K.out b ⟨by omega, K.out.size⟩)
    replace C := Lib.hid c
    have sw4 := b.size
    clear b c
    cases o with
    | false =>
      go_wp2_with fail
      refine (l2DrawAny_any _ _ A n cap i4 h4 hn C.out).mono ?_
      rintro e w5 ⟨y, i5, h5, ⟨_, _⟩, rfl, c, b⟩
      replace BT := Lib.hid (BT.out.below ((Below.refl _ _).grown b K.out.size (fun k e => by have e1 := Option.some.inj e; omega)))
      replace K := Lib.hid (below_off K.out b ⟨by omega, K.out.size⟩)
      replace C := Lib.hid c
      have sw5 := b.size
      clear b c
      go_wp2_with fail
      refine (l2DrawAny_any _ _ A n cap i5 h5 hn C.out).mono ?_
      rintro e w6 ⟨d, i6, h6, ⟨_, _⟩, rfl, c, b⟩
      replace BT := Lib.hid (BT.out.below ((Below.refl _ _).grown b K.out.size (fun k e => by have e1 := Option.some.inj e; omega)))
      replace K := Lib.hid (below_off K.out b ⟨by omega, K.out.size⟩)
      replace C := Lib.hid c
      have sw6 := b.size
      clear b c
      go_wp2
      refine bodyPost_ret (v := .tuple #[.int .i64 y, .int .i64 d, .int .i64 p, .int .i64 0]) ?_ rfl ⟨y, d, p, 0, ⟨hp0, hp1⟩, rfl, K.out⟩
      simp [results, Tryd.f7, go_sem]
    | true =>
      go_wp2_with fail
      refine (l2DrawAny_any _ _ A n cap i4 h4 hn C.out).mono ?_
      rintro e w5 ⟨y, i5, h5, ⟨_, _⟩, rfl, c, b⟩
      replace BT := Lib.hid (BT.out.below ((Below.refl _ _).grown b K.out.size (fun k e => by have e1 := Option.some.inj e; omega)))
      replace K := Lib.hid (below_off K.out b ⟨by omega, K.out.size⟩)
      replace C := Lib.hid c
      have sw5 := b.size
      clear b c
      go_wp2_with fail
      refine (l2DrawAny_any _ _ A n cap i5 h5 hn C.out).mono ?_
      rintro e w6 ⟨d, i6, h6, ⟨_, _⟩, rfl, c, b⟩
      replace BT := Lib.hid (BT.out.below ((Below.refl _ _).grown b K.out.size (fun k e => by have e1 := Option.some.inj e; omega)))
      replace K := Lib.hid (below_off K.out b ⟨by omega, K.out.size⟩)
      replace C := Lib.hid c
      have sw6 := b.size
      clear b c
      go_wp2
      refine bodyPost_ret (v := .tuple #[.int .i64 y, .int .i64 d, .int .i64 p, .int .i64 s]) ?_ rfl ⟨y, d, p, s, ⟨hp0, hp1⟩, rfl, K.out⟩
      simp [results, Tryd.f7, go_sem]

set_option maxRecDepth 100000 in
set_option maxHeartbeats 16000000 in
theorem DrawProves_any (w : World) (A : Option Addr) (n cap : Nat) (hn : n ≤ 4096) (hb : BytesAt w w.heap.size A n) :
    Calls Tryd.prog 9 #[.slice A n cap] w (ProvesOut w) := by
  have K := Lib.hid (Below.refl w.heap.size w)
  have BT := Lib.hid hb
  clear hb
  go_enter Tryd.func9, Tryd.ntmps9
  obtain ⟨V0, hV0⟩ : ∃ W, w.alloc (.cells #[.int .i64 0, .int .i64 0, .int .i64 0, .int .i64 0, .int .i64 0, .int .i64 0, .int .i64 0, .int .i64 0, .string ⟨#[]⟩, .bool false] 31) = W := ⟨_, rfl⟩
  replace BT := Lib.hid (BT.out.below ((Below.refl _ _).alloc K.out.size (.cells #[.int .i64 0, .int .i64 0, .int .i64 0, .int .i64 0, .int .i64 0, .int .i64 0, .int .i64 0, .int .i64 0, .string ⟨#[]⟩, .bool false] 31)))
  replace K := Lib.hid (K.out.alloc K.out.size (.cells #[.int .i64 0, .int .i64 0, .int .i64 0, .int .i64 0, .int .i64 0, .int .i64 0, .int .i64 0, .int .i64 0, .string ⟨#[]⟩, .bool false] 31))
  have R0 := Lib.hid (heap1 w (.cells #[.int .i64 0, .int .i64 0, .int .i64 0, .int .i64 0, .int .i64 0, .int .i64 0, .int .i64 0, .int .i64 0, .string ⟨#[]⟩, .bool false] 31))
  rw [hV0] at BT K R0
  have sV0 : w.heap.size < V0.heap.size := by rw [← hV0]; simp
  go_wp2_with fail
  refine (l1New_any _ A n cap hn (BT.out.up K.out.size)).mono ?_
  rintro e w1 ⟨rfl, h0, c, b⟩
  replace BT := Lib.hid (BT.out.below (b.mono K.out.size))
  replace K := Lib.hid (K.out.trans (b.mono K.out.size))
  replace R0 := Lib.hid (blk_on b R0.out)
  have C := Lib.hid c
  have hcl := c.lt
  have sw1 := b.size
  have sK := K.out.size
  clear b c
  clear hV0
  go_wp2_with fail
  refine (l11DrawAny_any _ _ A n cap 0 h0 hn C.out).mono ?_
  rintro e w2 ⟨⟨ah, ad, ap, ⟨⟨xu, xs, xh, xa⟩, xn, xt, xp⟩⟩, s, i2, h2, hap, rfl, c, b⟩
  replace BT := Lib.hid (BT.out.below ((Below.refl _ _).grown b K.out.size (fun k e => by have e1 := Option.some.inj e; omega)))
  replace K := Lib.hid (below_off K.out b ⟨by omega, K.out.size⟩)
  replace R0 := Lib.hid (blk_kept b R0.out (by omega))
  replace C := Lib.hid c
  have sw2 := b.size
  clear b c
  have hap0 : 0 ≤ ap := hap.1
  have hap1 : ap ≤ 5 := hap.2
  clear hap
  have HV : Hid (AnsV.val ⟨ah, ad, ap, ⟨⟨xu, xs, xh, xa⟩, xn, xt, xp⟩⟩ = .agg #[.int .i64 ah, .int .i64 ad, .int .i64 ap, .int .i64 xu, .int .i64 xs, .int .i64 xh, .int .i64 xa, .int .i64 xn, .string xt, .bool xp]) := rfl
  rw [HV.out]
  clear HV
  obtain ⟨V3, hV3⟩ : ∃ W, w2.alloc (.cells #[.int .i64 0, .int .i64 0, .int .i64 0, .int .i64 0, .int .i64 0, .int .i64 0, .int .i64 0, .int .i64 0, .string ⟨#[]⟩, .bool false] 31) = W := ⟨_, rfl⟩
  replace BT := Lib.hid (BT.out.below ((Below.refl _ _).alloc K.out.size (.cells #[.int .i64 0, .int .i64 0, .int .i64 0, .int .i64 0, .int .i64 0, .int .i64 0, .int .i64 0, .int .i64 0, .string ⟨#[]⟩, .bool false] 31)))
  replace K := Lib.hid (K.out.alloc K.out.size (.cells #[.int .i64 0, .int .i64 0, .int .i64 0, .int .i64 0, .int .i64 0, .int .i64 0, .int .i64 0, .int .i64 0, .string ⟨#[]⟩, .bool false] 31))
  replace R0 := Lib.hid (alloc_blk (o := .cells #[.int .i64 0, .int .i64 0, .int .i64 0, .int .i64 0, .int .i64 0, .int .i64 0, .int .i64 0, .int .i64 0, .string ⟨#[]⟩, .bool false] 31) R0.out)
  replace C := Lib.hid (C.out.alloc (.cells #[.int .i64 0, .int .i64 0, .int .i64 0, .int .i64 0, .int .i64 0, .int .i64 0, .int .i64 0, .int .i64 0, .string ⟨#[]⟩, .bool false] 31))
  have KA := Lib.hid (heap1 w2 (.cells #[.int .i64 0, .int .i64 0, .int .i64 0, .int .i64 0, .int .i64 0, .int .i64 0, .int .i64 0, .int .i64 0, .string ⟨#[]⟩, .bool false] 31))
  rw [hV3] at BT K R0 C KA
  have sV3 : w2.heap.size < V3.heap.size := by rw [← hV3]; simp
  have KAo := KA
  have bs : Below w2.heap.size V3 (V3.setRow w2.heap.size #[.int .i64 ah, .int .i64 ad, .int .i64 ap, .int .i64 xu, .int .i64 xs, .int .i64 xh, .int .i64 xa, .int .i64 xn, .string xt, .bool xp]) := below_setRow (Below.refl _ _) (Nat.le_refl _) _
  have KA2 : Hid ((V3.setRow w2.heap.size #[.int .i64 ah, .int .i64 ad, .int .i64 ap, .int .i64 xu, .int .i64 xs, .int .i64 xh, .int .i64 xa, .int .i64 xn, .string xt, .bool xp]).heap[w2.heap.size]? = some (.cells #[.int .i64 ah, .int .i64 ad, .int .i64 ap, .int .i64 xu, .int .i64 xs, .int .i64 xh, .int .i64 xa, .int .i64 xn, .string xt, .bool xp] 31)) := setRow_heap _ _ _ _ _ _ KA.out
  have BT2 := Lib.hid (BT.out.below (bs.mono (by omega)))
  have K2 := Lib.hid (K.out.trans (bs.mono (by omega)))
  have R02 := Lib.hid (show (V3.setRow w2.heap.size #[.int .i64 ah, .int .i64 ad, .int .i64 ap, .int .i64 xu, .int .i64 xs, .int .i64 xh, .int .i64 xa, .int .i64 xn, .string xt, .bool xp]).heap[_]? = _ from (setRow_other _ _ _ _ (by omega)).trans R0.out)
  have C2 := Lib.hid (C.out.below (bs.mono (by omega)))
  have sR := bs.size
  go_wp2_with (refine wpList_store_row rfl 31 _ _ rfl (w2.heap.size) #[.int .i64 ah, .int .i64 ad, .int .i64 ap, .int .i64 xu, .int .i64 xs, .int .i64 xh, .int .i64 xa, .int .i64 xn, .string xt, .bool xp] rfl rfl 31 _ KAo.out (by kernel_rfl) rfl (by simp [Value.oneCell']) ?_)
  clear hV3
  generalize (V3.setRow w2.heap.size #[.int .i64 ah, .int .i64 ad, .int .i64 ap, .int .i64 xu, .int .i64 xs, .int .i64 xh, .int .i64 xa, .int .i64 xn, .string xt, .bool xp]) = S4 at KA2 BT2 K2 R02 C2 sR ⊢
  clear bs KAo KA BT K R0 C
  have KA := KA2
  have BT := BT2
  have K := K2
  have R0 := R02
  have C := C2
  clear KA2 BT2 K2 R02 C2
  refine (l1Once_any _ _ A n cap i2 h2 5 hn (by omega) (by omega) C.out).mono ?_
  rintro e w5 ⟨o, i5, h5, rfl, c, b⟩
  replace BT := Lib.hid (BT.out.below ((Below.refl _ _).grown b K.out.size (fun k e => by have e1 := Option.some.inj e; omega)))
  replace K := Lib.hid (below_off K.out b ⟨by omega, K.out.size⟩)
  replace R0 := Lib.hid (blk_kept b R0.out (by omega))
  replace C := Lib.hid c
  replace KA := Lib.hid (blk_kept b KA.out (by omega))
  have sw5 := b.size
  clear b c
  cases o with
  | false =>
    go_wp2_with (first | (refine wpList_load_row rfl 31 _ rfl (w2.heap.size) rfl 31 _ (0, 0) _ KA.out Tryd.underlying31 rfl (by kernel_rfl) ?_) | (refine wpList_store_row rfl 31 _ _ rfl (w.heap.size) #[.int .i64 ah, .int .i64 ad, .int .i64 ap, .int .i64 xu, .int .i64 xs, .int .i64 xh, .int .i64 xa, .int .i64 xn, .string xt, .bool xp] rfl rfl 31 _ R0.out (by kernel_rfl) rfl (by simp [Value.oneCell']) ?_))
    have bs : Below w.heap.size w5 (w5.setRow w.heap.size #[.int .i64 ah, .int .i64 ad, .int .i64 ap, .int .i64 xu, .int .i64 xs, .int .i64 xh, .int .i64 xa, .int .i64 xn, .string xt, .bool xp]) := below_setRow (Below.refl _ _) (Nat.le_refl _) _
    exact row_ret2 (r := w.heap.size) (cs := #[.int .i64 ah, .int .i64 ad, .int .i64 ap, .int .i64 xu, .int .i64 xs, .int .i64 xh, .int .i64 xa, .int .i64 xn, .string xt, .bool xp]) rfl rfl rfl (setRow_heap _ _ _ _ _ _ R0.out) Tryd.underlying31 rfl (by kernel_rfl) rfl ⟨⟨ah, ad, ap, ⟨⟨xu, xs, xh, xa⟩, xn, xt, xp⟩⟩, s, ⟨hap0, hap1⟩, rfl, K.out.trans bs⟩
  | true =>
    go_wp2_with fail
    refine (l2DrawAny_any _ _ A n cap i5 h5 hn C.out).mono ?_
    rintro e w6 ⟨zz, i6, h6, ⟨_, _⟩, rfl, c, b⟩
    replace BT := Lib.hid (BT.out.below ((Below.refl _ _).grown b K.out.size (fun k e => by have e1 := Option.some.inj e; omega)))
    replace K := Lib.hid (below_off K.out b ⟨by omega, K.out.size⟩)
    replace R0 := Lib.hid (blk_kept b R0.out (by omega))
    replace C := Lib.hid c
    replace KA := Lib.hid (blk_kept b KA.out (by omega))
    have sw6 := b.size
    clear b c
    go_wp2_with (first | (refine wpList_load_row rfl 31 _ rfl (w2.heap.size) rfl 31 _ (0, 0) _ KA.out Tryd.underlying31 rfl (by kernel_rfl) ?_) | (refine wpList_store_row rfl 31 _ _ rfl (w.heap.size) #[.int .i64 ah, .int .i64 ad, .int .i64 ap, .int .i64 xu, .int .i64 xs, .int .i64 xh, .int .i64 xa, .int .i64 xn, .string xt, .bool xp] rfl rfl 31 _ R0.out (by kernel_rfl) rfl (by simp [Value.oneCell']) ?_))
    have bs : Below w.heap.size w6 (w6.setRow w.heap.size #[.int .i64 ah, .int .i64 ad, .int .i64 ap, .int .i64 xu, .int .i64 xs, .int .i64 xh, .int .i64 xa, .int .i64 xn, .string xt, .bool xp]) := below_setRow (Below.refl _ _) (Nat.le_refl _) _
    exact row_ret2 (r := w.heap.size) (cs := #[.int .i64 ah, .int .i64 ad, .int .i64 ap, .int .i64 xu, .int .i64 xs, .int .i64 xh, .int .i64 xa, .int .i64 xn, .string xt, .bool xp]) rfl rfl rfl (setRow_heap _ _ _ _ _ _ R0.out) Tryd.underlying31 rfl (by kernel_rfl) rfl ⟨⟨ah, ad, ap, ⟨⟨xu, xs, xh, xa⟩, xn, xt, xp⟩⟩, zz, ⟨hap0, hap1⟩, rfl, K.out.trans bs⟩

end Go.Proofs.YtdnkpdfhnpmhbaaDoor.Tx

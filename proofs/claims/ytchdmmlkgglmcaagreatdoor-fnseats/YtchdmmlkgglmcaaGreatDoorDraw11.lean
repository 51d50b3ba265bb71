/-
  What Answering of the model answers. Condition: a pick is an int64.
  What the model draws for chapter 11: an answer and a secret. Condition: the draw's code has at most 4096 bytes.
-/
import Derived.Test.YtchdmmlkgglmcaaGreatDoorAns
import Derived.Test.YtchdmmlkgglmcaaGreatDoorDraw4
import Derived.Test.YtchdmmlkgglmcaaGreatDoorOffs
namespace Go.Proofs.YtchdmmlkgglmcaaGreatDoor.Tx
open Go.RowKit

end Go.Proofs.YtchdmmlkgglmcaaGreatDoor.Tx
namespace Go.Proofs.YtchdmmlkgglmcaaGreatDoor.Tx
open Go.RowKit

/-- What a draw of an answer and a secret leaves. -/
def AnsDrawn (w : World) (g : Nat) (A : Option Addr) (n cap : Nat) (e : Ending) (w' : World) : Prop :=
  ∃ (a : AnsV) (s i h : Int), (0 ≤ a.p ∧ a.p ≤ 5) ∧ e = .returned (.tuple #[a.val, .int .i64 s]) ∧ Cur w' g A n cap i h ∧ w.grownBy w' (some g)
/-- What the draws at the face leave. -/
def AnsingOut (w : World) (e : Ending) (w' : World) : Prop := ∃ h d p s : Int, (0 ≤ p ∧ p ≤ 5) ∧ e = .returned (.tuple #[.int .i64 h, .int .i64 d, .int .i64 p, .int .i64 s]) ∧ Below w.heap.size w w'
def ProvesOut (w : World) (e : Ending) (w' : World) : Prop := ∃ (a : AnsV) (s : Int), (0 ≤ a.p ∧ a.p ≤ 5) ∧ e = .returned (.tuple #[a.val, .int .i64 s]) ∧ Below w.heap.size w w'

set_option maxRecDepth 100000 in
set_option maxHeartbeats 8000000 in
theorem DrawAnswering_any (w : World) (A : Option Addr) (n cap : Nat) (hn : n ≤ 4096) (hb : BytesAt w w.heap.size A n) :
    Calls Tryz.prog 28 #[.slice A n cap] w (AnsingOut w) := by
  have K := Lib.hid (Below.refl w.heap.size w)
  have BT := Lib.hid hb
  clear hb
  go_enter Tryz.func28, Tryz.ntmps28
  go_wp2_with fail
  refine (l1New_any _ A n cap hn (BT.out.up K.out.size)).mono ?_
  rintro e w1 ⟨rfl, h0, c, b⟩
  replace BT := Lib.hid (BT.out.below (b.mono K.out.size))
  replace K := Lib.hid (K.out.trans (b.mono K.out.size))
  have C := Lib.hid c
  have hcl := c.lt
  have sw1 := b.size
  have sK := K.out.size
  clear b c
  go_wp2_with fail
  refine (l1From_any _ _ A n cap 0 h0 0 5 hn (by omega) (by omega) (by omega) (by omega) C.out).mono ?_
  rintro e w2 ⟨p, i2, h2, ⟨hp0, hp1⟩, rfl, c, b⟩
  replace BT := Lib.hid (BT.out.below ((Below.refl _ _).grown b K.out.size (fun k e => by have e1 := Option.some.inj e; omega)))
  replace K := Lib.hid (below_off K.out b ⟨by omega, K.out.size⟩)
  replace C := Lib.hid c
  have sw2 := b.size
  clear b c
  go_wp2_with fail
  refine (l1Below_any _ _ A n cap i2 h2 3 hn (by omega) (by omega) C.out).mono ?_
  rintro e w3 ⟨s, i3, h3, ⟨_, _⟩, rfl, c, b⟩
  replace BT := Lib.hid (BT.out.below ((Below.refl _ _).grown b K.out.size (fun k e => by have e1 := Option.some.inj e; omega)))
  replace K := Lib.hid (below_off K.out b ⟨by omega, K.out.size⟩)
  replace C := Lib.hid c
  have sw3 := b.size
  clear b c
  cases hq : p == 1
  · go_wp2_with fail
    refine (l2DrawAny_any _ _ A n cap i3 h3 hn C.out).mono ?_
    rintro e w5 ⟨y, i5, h5, ⟨_, _⟩, rfl, c, b⟩
    replace BT := Lib.hid (BT.out.below ((Below.refl _ _).grown b K.out.size (fun k e => by have e1 := Option.some.inj e; omega)))
    replace K := Lib.hid (below_off K.out b ⟨by omega, K.out.size⟩)
    replace C := Lib.hid c
    have sw5 := b.size
    clear b c
    go_wp2_with fail
    refine (l2DrawAny_any _ _ A n cap i5 h5 hn C.out).mono ?_
    rintro e w6 ⟨d, i6, h6, ⟨_, _⟩, rfl, c, b⟩
    replace BT := Lib.hid (BT.out.below ((Below.refl _ _).grown b K.out.size (fun k e => by have e1 := Option.some.inj e; omega)))
    replace K := Lib.hid (below_off K.out b ⟨by omega, K.out.size⟩)
    replace C := Lib.hid c
    have sw6 := b.size
    clear b c
    go_wp2
    refine bodyPost_ret (v := .tuple #[.int .i64 y, .int .i64 d, .int .i64 p, .int .i64 s]) ?_ rfl ⟨y, d, p, s, ⟨hp0, hp1⟩, rfl, K.out⟩
    simp [results, Tryz.f28, go_sem]
  · go_wp2_with fail
    refine (l1Once_any _ _ A n cap i3 h3 4 hn (by omega) (by omega) C.out).mono ?_
    rintro e w4 ⟨o, i4, h4, rfl, c, b⟩
    replace BT := Lib.hid (BT.out.below ((Below.refl _ _).grown b K.out.size (fun k e => by have e1 := Option.some.inj e; omega)))
    replace K := Lib.hid (below_off K.out b ⟨by omega, K.out.size⟩)
    replace C := Lib.hid c
    have sw4 := b.size
    clear b c
    cases o with
    | false =>
      go_wp2_with fail
      refine (l2DrawAny_any _ _ A n cap i4 h4 hn C.out).mono ?_
      rintro e w5 ⟨y, i5, h5, ⟨_, _⟩, rfl, c, b⟩
      replace BT := Lib.hid (BT.out.below ((Below.refl _ _).grown b K.out.size (fun k e => by have e1 := Option.some.inj e; omega)))
      replace K := Lib.hid (below_off K.out b ⟨by omega, K.out.size⟩)
      replace C := Lib.hid c
      have sw5 := b.size
      clear b c
      go_wp2_with fail
      refine (l2DrawAny_any _ _ A n cap i5 h5 hn C.out).mono ?_
      rintro e w6 ⟨d, i6, h6, ⟨_, _⟩, rfl, c, b⟩
      replace BT := Lib.hid (BT.out.below ((Below.refl _ _).grown b K.out.size (fun k e => by have e1 := Option.some.inj e; omega)))
      replace K := Lib.hid (below_off K.out b ⟨by omega, K.out.size⟩)
      replace C := Lib.hid c
      have sw6 := b.size
      clear b c
      go_wp2
      refine bodyPost_ret (v := .tuple #[.int .i64 y, .int .i64 d, .int .i64 p, .int .i64 0]) ?_ rfl ⟨y, d, p, 0, ⟨hp0, hp1⟩, rfl, K.out⟩
      simp [results, Tryz.f28, go_sem]
    | true =>
      go_wp2_with fail
      refine (l2DrawAny_any _ _ A n cap i4 h4 hn C.out).mono ?_
      rintro e w5 ⟨y, i5, h5, ⟨_, _⟩, rfl, c, b⟩
      replace BT := Lib.hid (BT.out.below ((Below.refl _ _).grown b K.out.size (fun k e => by have e1 := Option.some.inj e; omega)))
      replace K := Lib.hid (below_off K.out b ⟨by omega, K.out.size⟩)
      replace C := Lib.hid c
      have sw5 := b.size
      clear b c
      go_wp2_with fail
      refine (l2DrawAny_any _ _ A n cap i5 h5 hn C.out).mono ?_
      rintro e w6 ⟨d, i6, h6, ⟨_, _⟩, rfl, c, b⟩
      replace BT := Lib.hid (BT.out.below ((Below.refl _ _).grown b K.out.size (fun k e => by have e1 := Option.some.inj e; omega)))
      replace K := Lib.hid (below_off K.out b ⟨by omega, K.out.size⟩)
      replace C := Lib.hid c
      have sw6 := b.size
      clear b c
      go_wp2
      refine bodyPost_ret (v := .tuple #[.int .i64 y, .int .i64 d, .int .i64 p, .int .i64 s]) ?_ rfl ⟨y, d, p, s, ⟨hp0, hp1⟩, rfl, K.out⟩
      simp [results, Tryz.f28, go_sem]

end Go.Proofs.YtchdmmlkgglmcaaGreatDoor.Tx

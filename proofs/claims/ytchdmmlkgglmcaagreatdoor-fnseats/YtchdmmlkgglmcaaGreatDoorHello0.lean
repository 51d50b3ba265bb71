/-
  Plain facts on greetings: which are right, which are without a token; and what == says of a greeting and one without a token, of a box and the zero box. No conditions.
-/
import Derived.Test.YtchdmmlkgglmcaaGreatDoorBox0
namespace Go.Proofs.YtchdmmlkgglmcaaGreatDoor.Tx
open Go.RowKit

/-- A greeting's eighteen cells. -/
structure HelV where
  d : Int
  ag : Bool
  x : BoxV
  g : Int
  y : BoxV
  ea : Bool
def HelV.zero : HelV := ⟨0, false, .zero, 0, .zero, false⟩
def HelV.cells (q : HelV) : List Value := .int .i64 q.d :: .bool q.ag :: (q.x.cells ++ (.int .i64 q.g :: (q.y.cells ++ [.bool q.ea])))
def HelV.val (q : HelV) : Value := .agg q.cells.toArray
/-- Is it the zero box? -/
def BoxV.isZ (b : BoxV) : Bool := b.k.u == 0 && (b.k.s == 0 && (b.k.h == 0 && (b.k.a == 0 && (b.no == 0 && (b.t.toList.isEmpty && !b.sp)))))
/-- Is it without a token? -/
def bareB (q : HelV) : Bool := q.x.isZ && (q.g == 0 && (q.y.isZ && !q.ea))
/-- Is it right? -/
def helOkB (q : HelV) : Bool := isDrawB q.d && (!(q.ag && q.ea) && (bareB q || (boxOkB q.x && (boxOkB q.y && inB q.g 0 100000))))
/-- What is greeted without a token. -/
def helGr (d : Int) (ag : Bool) : HelV := ⟨d, ag, .zero, 0, .zero, false⟩
theorem gr_bare (d : Int) (ag : Bool) : bareB (helGr d ag) = true := by simp [bareB, helGr, BoxV.isZ, BoxV.zero, KeyV.zero, ByteArray.toList_eq]
theorem gr_ok (d : Int) (ag : Bool) : helOkB (helGr d ag) = isDrawB d := by rw [helOkB, gr_bare]; simp [helGr]
def helNew (d : Int) (ag : Bool) : HelV := if isDrawB d then helGr d ag else .zero

set_option maxHeartbeats 2000000 in
theorem eq_box_zero (xu xs xh xa xn : Int) (xt : ByteArray) (xp : Bool) (w : World) : (Op.equalIn 10000 32 (.agg #[.int .i64 xu, .int .i64 xs, .int .i64 xh, .int .i64 xa, .int .i64 xn, .string xt, .bool xp]) (.agg #[.int .i64 0, .int .i64 0, .int .i64 0, .int .i64 0, .int .i64 0, .string ⟨#[]⟩, .bool false])).run Tryz.prog w = .ok (BoxV.isZ ⟨⟨xu, xs, xh, xa⟩, xn, xt, xp⟩) w := by
  unfold BoxV.isZ
  dsimp only
  cases h0 : xu == 0
  · simp [go_sem, h0]
  cases h1 : xs == 0
  · simp [go_sem, h0, h1]
  cases h2 : xh == 0
  · simp [go_sem, h0, h1, h2]
  cases h3 : xa == 0
  · simp [go_sem, h0, h1, h2, h3]
  cases h4 : xn == 0
  · simp [go_sem, h0, h1, h2, h3, h4]
  cases h5 : xt.toList.isEmpty
  · simp [go_sem, h0, h1, h2, h3, h4, h5]
  cases xp
  rotate_left
  · simp [go_sem, h0, h1, h2, h3, h4, h5]
  simp [go_sem, h0, h1, h2, h3, h4, h5]


end Go.Proofs.YtchdmmlkgglmcaaGreatDoor.Tx

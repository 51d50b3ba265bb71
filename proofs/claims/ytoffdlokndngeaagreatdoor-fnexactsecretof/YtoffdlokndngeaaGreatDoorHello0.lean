/-
  Plain facts on greetings: which are right, which are without a token; and what == says of a greeting and one without a token, of a box and the zero box. No conditions.
-/
import Derived.Test.YtoffdlokndngeaaGreatDoorBox0
namespace Go.Proofs.YtoffdlokndngeaaGreatDoor.Tx
open Go.RowKit

/-- A greeting's eighteen cells. -/
structure HelV where
  d : Int
  ag : Bool
  x : BoxV
  g : Int
  y : BoxV
  ea : Bool
def HelV.zero : HelV := ⟨0, false, .zero, 0, .zero, false⟩
def HelV.cells (q : HelV) : List Value := .int .i64 q.d :: .bool q.ag :: (q.x.cells ++ (.int .i64 q.g :: (q.y.cells ++ [.bool q.ea])))
def HelV.val (q : HelV) : Value := .agg q.cells.toArray
/-- Is it the zero box? -/
def BoxV.isZ (b : BoxV) : Bool := b.k.u == 0 && (b.k.s == 0 && (b.k.h == 0 && (b.k.a == 0 && (b.no == 0 && (b.t.toList.isEmpty && !b.sp)))))
/-- Is it without a token? -/
def bareB (q : HelV) : Bool := q.x.isZ && (q.g == 0 && (q.y.isZ && !q.ea))
/-- Is it right? -/
def helOkB (q : HelV) : Bool := isDrawB q.d && (!(q.ag && q.ea) && (bareB q || (boxOkB q.x && (boxOkB q.y && inB q.g 0 100000))))
/-- What is greeted without a token. -/
def helGr (d : Int) (ag : Bool) : HelV := ⟨d, ag, .zero, 0, .zero, false⟩
theorem gr_bare (d : Int) (ag : Bool) : bareB (helGr d ag) = true := by simp [bareB, helGr, BoxV.isZ, BoxV.zero, KeyV.zero, ByteArray.toList_eq]
theorem gr_ok (d : Int) (ag : Bool) : helOkB (helGr d ag) = isDrawB d := by rw [helOkB, gr_bare]; simp [helGr]
def helNew (d : Int) (ag : Bool) : HelV := if isDrawB d then helGr d ag else .zero

set_option maxHeartbeats 2000000 in
theorem eq_box_zero (xu xs xh xa xn : Int) (xt : ByteArray) (xp : Bool) (w : World) : (Op.equalIn 10000 30 (.agg #[.int .i64 xu, .int .i64 xs, .int .i64 xh, .int .i64 xa, .int .i64 xn, .string xt, .bool xp]) (.agg #[.int .i64 0, .int .i64 0, .int .i64 0, .int .i64 0, .int .i64 0, .string ⟨#[]⟩, .bool false])).run Tryz.prog w = .ok (BoxV.isZ ⟨⟨xu, xs, xh, xa⟩, xn, xt, xp⟩) w := by
  unfold BoxV.isZ
  dsimp only
  cases h0 : xu == 0
  · simp [go_sem, h0]
  cases h1 : xs == 0
  · simp [go_sem, h0, h1]
  cases h2 : xh == 0
  · simp [go_sem, h0, h1, h2]
  cases h3 : xa == 0
  · simp [go_sem, h0, h1, h2, h3]
  cases h4 : xn == 0
  · simp [go_sem, h0, h1, h2, h3, h4]
  cases h5 : xt.toList.isEmpty
  · simp [go_sem, h0, h1, h2, h3, h4, h5]
  cases xp
  rotate_left
  · simp [go_sem, h0, h1, h2, h3, h4, h5]
  simp [go_sem, h0, h1, h2, h3, h4, h5]

set_option maxHeartbeats 8000000 in
theorem eq_hello_bare (d : Int) (ag : Bool) (xu xs xh xa xn : Int) (xt : ByteArray) (xp : Bool) (g : Int) (yu ys yh ya yn : Int) (yt : ByteArray) (yp : Bool) (ea : Bool) (w : World) : (Op.equalIn 10000 32 (.agg #[.int .i64 d, .bool ag, .int .i64 xu, .int .i64 xs, .int .i64 xh, .int .i64 xa, .int .i64 xn, .string xt, .bool xp, .int .i64 g, .int .i64 yu, .int .i64 ys, .int .i64 yh, .int .i64 ya, .int .i64 yn, .string yt, .bool yp, .bool ea]) (.agg #[.int .i64 d, .bool ag, .int .i64 0, .int .i64 0, .int .i64 0, .int .i64 0, .int .i64 0, .string ⟨#[]⟩, .bool false, .int .i64 0, .int .i64 0, .int .i64 0, .int .i64 0, .int .i64 0, .int .i64 0, .string ⟨#[]⟩, .bool false, .bool false])).run Tryz.prog w = .ok (bareB ⟨d, ag, ⟨⟨xu, xs, xh, xa⟩, xn, xt, xp⟩, g, ⟨⟨yu, ys, yh, ya⟩, yn, yt, yp⟩, ea⟩) w := by
  unfold bareB BoxV.isZ
  dsimp only
  cases h0 : xu == 0
  · simp [go_sem, h0]
  cases h1 : xs == 0
  · simp [go_sem, h0, h1]
  cases h2 : xh == 0
  · simp [go_sem, h0, h1, h2]
  cases h3 : xa == 0
  · simp [go_sem, h0, h1, h2, h3]
  cases h4 : xn == 0
  · simp [go_sem, h0, h1, h2, h3, h4]
  cases h5 : xt.toList.isEmpty
  · simp [go_sem, h0, h1, h2, h3, h4, h5]
  cases xp
  rotate_left
  · simp [go_sem, h0, h1, h2, h3, h4, h5]
  cases h7 : g == 0
  · simp [go_sem, h0, h1, h2, h3, h4, h5, h7]
  cases h8 : yu == 0
  · simp [go_sem, h0, h1, h2, h3, h4, h5, h7, h8]
  cases h9 : ys == 0
  · simp [go_sem, h0, h1, h2, h3, h4, h5, h7, h8, h9]
  cases h10 : yh == 0
  · simp [go_sem, h0, h1, h2, h3, h4, h5, h7, h8, h9, h10]
  cases h11 : ya == 0
  · simp [go_sem, h0, h1, h2, h3, h4, h5, h7, h8, h9, h10, h11]
  cases h12 : yn == 0
  · simp [go_sem, h0, h1, h2, h3, h4, h5, h7, h8, h9, h10, h11, h12]
  cases h13 : yt.toList.isEmpty
  · simp [go_sem, h0, h1, h2, h3, h4, h5, h7, h8, h9, h10, h11, h12, h13]
  cases yp
  rotate_left
  · simp [go_sem, h0, h1, h2, h3, h4, h5, h7, h8, h9, h10, h11, h12, h13]
  cases ea
  rotate_left
  · simp [go_sem, h0, h1, h2, h3, h4, h5, h7, h8, h9, h10, h11, h12, h13]
  simp [go_sem, h0, h1, h2, h3, h4, h5, h7, h8, h9, h10, h11, h12, h13]

end Go.Proofs.YtoffdlokndngeaaGreatDoor.Tx

/-
  Plain facts on words and seats: which seats are right, what a seat hears. No conditions.
-/
import Derived.Test.YtchdmmlkgglmcaaGreatDoorRow0
import Derived.Test.YtchdmmlkgglmcaaGreatDoorAns0
import Derived.Test.YtchdmmlkgglmcaaGreatDoorElts
namespace Go.Proofs.YtchdmmlkgglmcaaGreatDoor.Tx

/-- A word that was heard. -/
structure WordV where
  t : ByteArray
  e : Bool
def WordV.zero : WordV := ⟨⟨#[]⟩, false⟩
def WordV.cells (q : WordV) : List Value := [.string q.t, .bool q.e]
def WordV.val (q : WordV) : Value := .agg q.cells.toArray
instance : Cells WordV := ⟨2, by decide, WordV.cells, fun _ => rfl, fun a v hv => by
  simp only [WordV.cells, List.mem_cons, List.not_mem_nil, or_false] at hv
  rcases hv with rfl | rfl <;> rfl⟩
theorem word_at {w : World} {g o : Nat} {q : WordV} (h : At w g o q) : w.cell? ⟨g, o, none⟩ = some (.string q.t) ∧ w.cell? ⟨g, o + 1, none⟩ = some (.bool q.e) := ⟨h 0 _ rfl, h 1 _ rfl⟩
theorem lies_word {w : World} {b off k : Nat} {l : List WordV} {q : WordV} (h : Lies w b off l) (hk : l[k]? = some q) : At w b (off + k * 2) q := h.2 k q hk

/-- A seat's numbers and rows; its log is a list of words beside it. -/
structure SeatV where
  st : Int
  h : Int
  d : Int
  p : Int
  e : RowV
  f : RowV
def SeatV.zero : SeatV := ⟨0, 0, 0, 0, .zero, .zero⟩
def SeatV.front (s : SeatV) : List Value := .int .i64 s.st :: .int .i64 s.h :: .int .i64 s.d :: .int .i64 s.p :: (s.e.cells ++ s.f.cells)
def SeatV.cells (s : SeatV) (A : Option Addr) (n cap : Nat) : List Value := s.front ++ [.slice A n cap]
def SeatV.val (s : SeatV) (A : Option Addr) (n cap : Nat) : Value := .agg (s.cells A n cap).toArray
def RowV.isZ (r : RowV) : Bool := r.k.u == 0 && (r.k.s == 0 && (r.k.h == 0 && (r.k.a == 0 && r.no == 0)))
def forthK (s h d : Int) : KeyV := rightK ⟨4, s, h, d⟩
def earlyK (s h : Int) : KeyV := rightK ⟨1, s, h, 0⟩
/-- Is it right (with so many words heard)? -/
def seatOkB (s : SeatV) (n : Nat) : Bool :=
  (s.st == 1 || s.st == 2) && (isDrawB s.h && (isDrawB s.d && (inB s.p 1 3 && (rowOkB s.e && (rowOkB s.f && (decide (n ≤ 60) &&
    (!s.f.k.same .zero && (s.f.k.same (forthK s.f.k.s s.h s.d) && (((s.f.k.s == 0) == (s.p == 1)) &&
      (if s.st == 1 && s.p == 3 then s.e.k.same (earlyK s.f.k.s s.h) else s.e.isZ))))))))))
/-- A new seat. -/
def newSeatRaw (h d p s : Int) : SeatV := ⟨1, h, d, p, if p == 3 then ⟨earlyK s h, 0⟩ else .zero, ⟨forthK s h d, 0⟩⟩
def newSeatB (h d p s : Int) : Bool := goesP p s && seatOkB (newSeatRaw h d p s) 0
def newSeatV (h d p s : Int) : SeatV := if newSeatB h d p s then newSeatRaw h d p s else .zero

end Go.Proofs.YtchdmmlkgglmcaaGreatDoor.Tx

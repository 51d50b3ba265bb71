/-
  What Hears of the model answers. Condition: at most 1048576 words.
-/
import Derived.Test.YtakhjdodljhfmaaSeat5
import Derived.Test.YtakhjdodljhfmaaNum
namespace Go.Proofs.Ytakhjdodljhfmaa.Tx
open Go.RowKit

/-- The text that ends the early words. -/
def endT (n : Nat) : ByteArray := ⟨#[101, 110, 100]⟩ ++ intT n
def isEnd (t : ByteArray) (n : Nat) : Bool := t.toList == (endT n).toList
/-- What a seat says to a box, what it is then, and what it has heard then. -/
def hearC (s : SeatV) (n : Nat) (b : BoxV) : Int :=
  if seatOkB s n then
    if s.st = 1 then (if takeB s.e b then (if n < 60 then 1 else 0) else (if takeB s.f b && isEnd (takeT s.f b) n then 2 else 0))
    else (if takeB s.f b && decide (n < 60) then 3 else 0)
  else 0
def hearS (s : SeatV) (n : Nat) (b : BoxV) : SeatV :=
  if seatOkB s n then
    if hearC s n b = 1 then { s with e := takeR s.e b }
    else if hearC s n b = 2 then { s with st := 2, e := .zero, f := takeR s.f b }
    else if hearC s n b = 3 then { s with f := takeR s.f b }
    else s
  else .zero
def hearL (s : SeatV) (l : List WordV) (b : BoxV) : List WordV :=
  if seatOkB s l.length then
    if hearC s l.length b = 1 then l ++ [⟨takeT s.e b, true⟩]
    else if hearC s l.length b = 3 then l ++ [⟨takeT s.f b, false⟩]
    else l
  else []
/-- The list that a seat leaves: nil, or made by the call. -/
def LogOut (w : World) (base : Nat) (A : Option Addr) (n cap : Nat) (l : List WordV) : Prop :=
  (A = none ∧ n = 0 ∧ cap = 0 ∧ l = []) ∨ ∃ g, A = some ⟨g, 0, none⟩ ∧ n = l.length ∧ MadeE w base 94 l g cap

theorem MadeG.not_blk {w : World} {B : Nat} {e : TypeId} {sz n : Nat} {vs : List Value} {gb cb : Nat} (h : MadeG w B e sz n vs gb cb) {b : Nat} {cs : Array Value} {t : TypeId} {fr : Nat × Nat} (hb : w.heap[b]? = some (.cells cs t fr)) (ht : t ≠ e) : gb ≠ b := by
  rintro rfl
  rcases h.own.2 with ⟨e1, _⟩ | ⟨g', cap, cur, hv, _, hblk, _⟩
  · cases e1
  · injection hv with h1 _ _
    injection h1 with h2
    injection h2 with h3 _ _
    subst h3
    rw [hb] at hblk
    injection hblk with h4
    injection h4 with _ h5 _
    exact ht h5

end Go.Proofs.Ytakhjdodljhfmaa.Tx

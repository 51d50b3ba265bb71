/-
  What EarlyIn, LogOf and l14Copy of the model answer. Condition: at most 1048576 words.
  What l14Copy of the model answers. Condition: at most 1048576 words.
  What Hears of the model answers. Condition: at most 1048576 words.
-/
import Derived.Test.YtioogmeghmeelaaSeat3
import Derived.Test.YtioogmeghmeelaaNum
namespace Go.Proofs.Ytioogmeghmeelaa.Tx
open Go.RowKit

/-- How many are early. -/
def earlyN (l : List WordV) : Nat := l.countP (·.e)
theorem early_le (l : List WordV) : earlyN l ≤ l.length := List.countP_le_length
theorem early_step {l : List WordV} {k : Nat} {q : WordV} (h : l[k]? = some q) : earlyN (l.take (k + 1)) = earlyN (l.take k) + (if q.e then 1 else 0) := by
  obtain ⟨hk, e⟩ := List.getElem?_eq_some_iff.1 h
  rw [earlyN, List.take_succ_eq_append_getElem hk, List.countP_append, e, earlyN]
  congr 1
  cases he : q.e <;> simp [he]
theorem text_step {l : List WordV} {k : Nat} {q : WordV} (h : l[k]? = some q) : (l.take (k + 1)).map WordV.t = (l.take k).map WordV.t ++ [q.t] := by
  obtain ⟨hk, e⟩ := List.getElem?_eq_some_iff.1 h
  rw [List.take_succ_eq_append_getElem hk, List.map_append, e]; rfl
theorem infoStrE : ∃ (i : TypeInfo) (by' : Nat), Try.prog.info? 9 = some i ∧ i.zero = some (.string ⟨#[]⟩) ∧ i.size = 1 ∧ i.bytes = by' ∧ by' ≤ 200 := by
  obtain ⟨i, hi⟩ := Option.isSome_iff_exists.1 (show (Try.prog.info? 9).isSome = true by kernel_rfl)
  have h1 : (Try.prog.info? 9).map (fun i => (i.zero, i.size)) = some (some (.string ⟨#[]⟩), 1) := by kernel_rfl
  have h2 : ((Try.prog.info? 9).map (fun i => decide (i.bytes ≤ 200))) = some true := by kernel_rfl
  rw [hi] at h1 h2
  simp only [Option.map_some, Option.some.injEq, Prod.mk.injEq, decide_eq_true_eq] at h1 h2
  exact ⟨i, i.bytes, hi, h1.1, h1.2, rfl, h2⟩
theorem infoWordE : ∃ (i : TypeInfo) (by' : Nat), Try.prog.info? 92 = some i ∧ i.zero = some WordV.zero.val ∧ i.size = 2 ∧ i.bytes = by' ∧ by' ≤ 200 := by
  obtain ⟨i, hi⟩ := Option.isSome_iff_exists.1 (show (Try.prog.info? 92).isSome = true by kernel_rfl)
  have h1 : (Try.prog.info? 92).map (fun i => (i.zero, i.size)) = some (some WordV.zero.val, 2) := by kernel_rfl
  have h2 : ((Try.prog.info? 92).map (fun i => decide (i.bytes ≤ 200))) = some true := by kernel_rfl
  rw [hi] at h1 h2
  simp only [Option.map_some, Option.some.injEq, Prod.mk.injEq, decide_eq_true_eq] at h1 h2
  exact ⟨i, i.bytes, hi, h1.1, h1.2, rfl, h2⟩

end Go.Proofs.Ytioogmeghmeelaa.Tx
namespace Go.Proofs.Ytioogmeghmeelaa.Tx
open Go.RowKit

theorem EltsO.cells {α : Type} [Cells α] {w : World} {B n : Nat} {ad : Addr} {l : List α} (h : EltsO w B (some ad) n l) (hB : B ≤ w.heap.size) : ∀ j u, (l.flatMap Cells.cells)[j]? = some u → w.cell? (ad.add j) = some u := by
  rcases Nat.eq_zero_or_pos n with h0 | h0
  · have : l = [] := List.length_eq_zero_iff.1 (h.1.trans h0)
    subst this
    intro j u hu
    simp at hu
  · obtain ⟨b, off, e, hb, hc⟩ := h.2 h0
    obtain rfl := Option.some.inj e
    exact (show Lies w b off l from ⟨by omega, hc⟩).cells

end Go.Proofs.Ytioogmeghmeelaa.Tx
namespace Go.Proofs.Ytioogmeghmeelaa.Tx
open Go.RowKit

/-- The text that ends the early words. -/
def endT (n : Nat) : ByteArray := ⟨#[101, 110, 100]⟩ ++ intT n
def isEnd (t : ByteArray) (n : Nat) : Bool := t.toList == (endT n).toList
/-- What a seat says to a box, what it is then, and what it has heard then. -/
def hearC (s : SeatV) (n : Nat) (b : BoxV) : Int :=
  if seatOkB s n then
    if s.st = 1 then (if takeB s.e b then (if n < 60 then 1 else 0) else (if takeB s.f b && isEnd (takeT s.f b) n then 2 else 0))
    else (if takeB s.f b && decide (n < 60) then 3 else 0)
  else 0
def hearS (s : SeatV) (n : Nat) (b : BoxV) : SeatV :=
  if seatOkB s n then
    if hearC s n b = 1 then { s with e := takeR s.e b }
    else if hearC s n b = 2 then { s with st := 2, e := .zero, f := takeR s.f b }
    else if hearC s n b = 3 then { s with f := takeR s.f b }
    else s
  else .zero
def hearL (s : SeatV) (l : List WordV) (b : BoxV) : List WordV :=
  if seatOkB s l.length then
    if hearC s l.length b = 1 then l ++ [⟨takeT s.e b, true⟩]
    else if hearC s l.length b = 3 then l ++ [⟨takeT s.f b, false⟩]
    else l
  else []
/-- The list that a seat leaves: nil, or made by the call. -/
def LogOut (w : World) (base : Nat) (A : Option Addr) (n cap : Nat) (l : List WordV) : Prop :=
  (A = none ∧ n = 0 ∧ cap = 0 ∧ l = []) ∨ ∃ g, A = some ⟨g, 0, none⟩ ∧ n = l.length ∧ MadeE w base 92 l g cap

theorem MadeG.not_blk {w : World} {B : Nat} {e : TypeId} {sz n : Nat} {vs : List Value} {gb cb : Nat} (h : MadeG w B e sz n vs gb cb) {b : Nat} {cs : Array Value} {t : TypeId} {fr : Nat × Nat} (hb : w.heap[b]? = some (.cells cs t fr)) (ht : t ≠ e) : gb ≠ b := by
  rintro rfl
  rcases h.own.2 with ⟨e1, _⟩ | ⟨g', cap, cur, hv, _, hblk, _⟩
  · cases e1
  · injection hv with h1 _ _
    injection h1 with h2
    injection h2 with h3 _ _
    subst h3
    rw [hb] at hblk
    injection hblk with h4
    injection h4 with _ h5 _
    exact ht h5

end Go.Proofs.Ytioogmeghmeelaa.Tx

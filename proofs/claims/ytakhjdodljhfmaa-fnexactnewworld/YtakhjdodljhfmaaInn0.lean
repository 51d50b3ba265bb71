/-
  Lists of seats in memory, each with the list of what it heard: a flat list of handles (a seat's numbers, and where its log lies), and what the logs read as. No conditions.
-/
import Derived.Test.YtakhjdodljhfmaaSeat0
import Derived.Test.YtakhjdodljhfmaaOutE
namespace Go.Proofs.Ytakhjdodljhfmaa.Tx
open Go.RowKit

/-- A seat as it lies: its numbers and rows, and the slice of its log. -/
structure SeatH where
  s : SeatV
  A : Option Addr
  n : Nat
  c : Nat
def SeatH.cells (q : SeatH) : List Value := q.s.cells q.A q.n q.c
def SeatH.val (q : SeatH) : Value := .agg q.cells.toArray
instance : Cells SeatH := ⟨15, by decide, SeatH.cells, fun _ => rfl, fun a v hv => by
  simp only [SeatH.cells, SeatV.cells, SeatV.front, RowV.cells, List.cons_append, List.nil_append, List.mem_cons, List.not_mem_nil, or_false] at hv
  rcases hv with rfl | rfl | rfl | rfl | rfl | rfl | rfl | rfl | rfl | rfl | rfl | rfl | rfl | rfl | rfl <;> rfl⟩
/-- A seat and what it heard. -/
structure SeatL where
  s : SeatV
  l : List WordV
/-- What the logs of the handles read as, in blocks below B. -/
def Logs (w : World) (B : Nat) (hs : List SeatH) (ss : List SeatL) : Prop :=
  hs.length = ss.length ∧ ∀ (j : Nat) (h : SeatH) (q : SeatL), hs[j]? = some h → ss[j]? = some q → h.s = q.s ∧ EltsO w B h.A h.n q.l ∧ (h.A = none → h.c = 0)
theorem Logs.below {w w' : World} {B : Nat} {hs : List SeatH} {ss : List SeatL} (h : Logs w B hs ss) (k : Below B w w') : Logs w' B hs ss :=
  ⟨h.1, fun j x q hx hq => ⟨(h.2 j x q hx hq).1, (h.2 j x q hx hq).2.1.below k, (h.2 j x q hx hq).2.2⟩⟩
theorem Logs.mono {w : World} {B B' : Nat} {hs : List SeatH} {ss : List SeatL} (h : Logs w B hs ss) (hB : B ≤ B') : Logs w B' hs ss :=
  ⟨h.1, fun j x q hx hq => ⟨(h.2 j x q hx hq).1, (h.2 j x q hx hq).2.1.mono hB, (h.2 j x q hx hq).2.2⟩⟩
/-- A slice that reads as a list of seats, in blocks below B; or nil. -/
def SeatsO (w : World) (B : Nat) (A : Option Addr) (n : Nat) (ss : List SeatL) : Prop := ∃ hs : List SeatH, EltsO w B A n hs ∧ Logs w B hs ss
theorem SeatsO.below {w w' : World} {B n : Nat} {A : Option Addr} {ss : List SeatL} (h : SeatsO w B A n ss) (k : Below B w w') : SeatsO w' B A n ss :=
  let ⟨hs, h1, h2⟩ := h; ⟨hs, h1.below k, h2.below k⟩
theorem SeatsO.mono {w : World} {B B' n : Nat} {A : Option Addr} {ss : List SeatL} (h : SeatsO w B A n ss) (hB : B ≤ B') : SeatsO w B' A n ss :=
  let ⟨hs, h1, h2⟩ := h; ⟨hs, h1.mono hB, h2.mono hB⟩
theorem SeatsO.len {w : World} {B n : Nat} {A : Option Addr} {ss : List SeatL} (h : SeatsO w B A n ss) : ss.length = n := by
  obtain ⟨hs, h1, h2⟩ := h
  rw [← h2.1, h1.1]
/-- The seat number k: where it lies, and its log. -/
theorem SeatsO.at {w : World} {B n k : Nat} {A : Option Addr} {ss : List SeatL} (h : SeatsO w B A n ss) (hk : k < n) :
    ∃ (b off : Nat) (x : SeatH) (q : SeatL), A = some ⟨b, off, none⟩ ∧ b < B ∧ ss[k]? = some q ∧ x.s = q.s ∧ At w b (off + k * 15) x ∧ EltsO w B x.A x.n q.l ∧ (x.A = none → x.c = 0) := by
  obtain ⟨hs, h1, h2⟩ := h
  obtain ⟨b, off, e, hb, hc⟩ := h1.2 (by omega)
  have hkl : k < hs.length := by rw [h1.1]; exact hk
  have hkl2 : k < ss.length := by rw [← h2.1]; exact hkl
  obtain ⟨r1, r2, r3⟩ := h2.2 k _ _ (List.getElem?_eq_getElem hkl) (List.getElem?_eq_getElem hkl2)
  exact ⟨b, off, hs[k], ss[k], e, hb, List.getElem?_eq_getElem hkl2, r1, hc k _ (List.getElem?_eq_getElem hkl), r2, r3⟩
theorem seat_at {w : World} {g o : Nat} {q : SeatH} (h : At w g o q) : w.cell? ⟨g, o, none⟩ = some (.int .i64 q.s.st) ∧ w.cell? ⟨g, o + 1, none⟩ = some (.int .i64 q.s.h) ∧ w.cell? ⟨g, o + 2, none⟩ = some (.int .i64 q.s.d) ∧ w.cell? ⟨g, o + 3, none⟩ = some (.int .i64 q.s.p) ∧
    w.cell? ⟨g, o + 4, none⟩ = some (.int .i64 q.s.e.k.u) ∧ w.cell? ⟨g, o + 5, none⟩ = some (.int .i64 q.s.e.k.s) ∧ w.cell? ⟨g, o + 6, none⟩ = some (.int .i64 q.s.e.k.h) ∧ w.cell? ⟨g, o + 7, none⟩ = some (.int .i64 q.s.e.k.a) ∧ w.cell? ⟨g, o + 8, none⟩ = some (.int .i64 q.s.e.no) ∧
    w.cell? ⟨g, o + 9, none⟩ = some (.int .i64 q.s.f.k.u) ∧ w.cell? ⟨g, o + 10, none⟩ = some (.int .i64 q.s.f.k.s) ∧ w.cell? ⟨g, o + 11, none⟩ = some (.int .i64 q.s.f.k.h) ∧ w.cell? ⟨g, o + 12, none⟩ = some (.int .i64 q.s.f.k.a) ∧ w.cell? ⟨g, o + 13, none⟩ = some (.int .i64 q.s.f.no) ∧
    w.cell? ⟨g, o + 14, none⟩ = some (.slice q.A q.n q.c) :=
  ⟨h 0 _ rfl, h 1 _ rfl, h 2 _ rfl, h 3 _ rfl, h 4 _ rfl, h 5 _ rfl, h 6 _ rfl, h 7 _ rfl, h 8 _ rfl, h 9 _ rfl, h 10 _ rfl, h 11 _ rfl, h 12 _ rfl, h 13 _ rfl, h 14 _ rfl⟩

end Go.Proofs.Ytakhjdodljhfmaa.Tx

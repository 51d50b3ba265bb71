/-
  Plain facts on inns: what one of its seats hears of a box, what falls. No conditions.
-/
import Derived.Test.YtakhjdodljhfmaaInn2
import Derived.Test.YtakhjdodljhfmaaHears
namespace Go.Proofs.Ytakhjdodljhfmaa.Tx

/-- The seat of that number. -/
def seatAt (k : Int) (ss : List SeatL) : Option SeatL := if 0 ≤ k then ss[k.toNat]? else none
def heardSeat (q : SeatL) (b : BoxV) : SeatL := ⟨hearS q.s q.l.length b, hearL q.s q.l b⟩
def handRaw (ss : List SeatL) (k : Int) (b : BoxV) : List SeatL := match seatAt k ss with
  | some q => ss.set k.toNat (heardSeat q b)
  | none => ss
def handRawC (ss : List SeatL) (k : Int) (b : BoxV) : Int := match seatAt k ss with
  | some q => hearC q.s q.l.length b
  | none => 0
/-- What an inn is behind a box for a seat of it: its memory, its seats, and what the seat said. -/
def handZ (zs : List Int) (t : Int) (ss : List SeatL) : List Int := if innOkB zs t ss then zs else []
def handT (zs : List Int) (t : Int) (ss : List SeatL) : Int := if innOkB zs t ss then t else 0
def handL (zs : List Int) (t : Int) (ss : List SeatL) (k : Int) (b : BoxV) : List SeatL := if innOkB zs t ss then handRaw ss k b else []
def handC (zs : List Int) (t : Int) (ss : List SeatL) (k : Int) (b : BoxV) : Int := if innOkB zs t ss then handRawC ss k b else 0
theorem hand_bad {zs : List Int} {t : Int} {ss : List SeatL} (h : innOkB zs t ss = false) (k : Int) (b : BoxV) : handZ zs t ss = [] ∧ handT zs t ss = 0 ∧ handL zs t ss k b = [] ∧ handC zs t ss k b = 0 := by
  rw [handZ, handT, handL, handC, h]
  exact ⟨rfl, rfl, rfl, rfl⟩
theorem hand_none {zs : List Int} {t : Int} {ss : List SeatL} (h : innOkB zs t ss = true) {k : Int} (hk : ¬ (0 ≤ k ∧ k ≤ (ss.length : Int) - 1)) (b : BoxV) : handZ zs t ss = zs ∧ handT zs t ss = t ∧ handL zs t ss k b = ss ∧ handC zs t ss k b = 0 := by
  have hs : seatAt k ss = none := by
    rw [seatAt]
    split
    · exact List.getElem?_eq_none (by omega)
    · rfl
  rw [handZ, handT, handL, handC, h, handRaw, handRawC, hs]
  exact ⟨rfl, rfl, rfl, rfl⟩
theorem hand_some {zs : List Int} {t : Int} {ss : List SeatL} (h : innOkB zs t ss = true) {j : Nat} {q : SeatL} (hq : ss[j]? = some q) (b : BoxV) : handZ zs t ss = zs ∧ handT zs t ss = t ∧ handL zs t ss (j : Int) b = ss.set j (heardSeat q b) ∧ handC zs t ss (j : Int) b = hearC q.s q.l.length b := by
  have hs : seatAt (j : Int) ss = some q := by
    rw [seatAt, if_pos (Int.natCast_nonneg j), Int.toNat_natCast]
    exact hq
  rw [handZ, handT, handL, handC, h, handRaw, handRawC, hs, Int.toNat_natCast]
  exact ⟨rfl, rfl, rfl, rfl⟩
/-- What is left behind a fall. -/
def fallB (zs : List Int) (t : Int) (ss : List SeatL) (now : Int) : Bool := innOkB zs t ss && (memB [] now && !decide (now < t))
def fallZ (zs : List Int) (t : Int) (ss : List SeatL) (now : Int) : List Int := if innOkB zs t ss && !fallB zs t ss now then zs else []
def fallL (zs : List Int) (t : Int) (ss : List SeatL) (now : Int) : List SeatL := if innOkB zs t ss && !fallB zs t ss now then ss else []
def fallT (zs : List Int) (t : Int) (ss : List SeatL) (now : Int) : Int := if fallB zs t ss now then sinceI [] now else if innOkB zs t ss then t else 0
theorem fall_bad {zs : List Int} {t : Int} {ss : List SeatL} (h : innOkB zs t ss = false) (now : Int) : fallB zs t ss now = false ∧ fallZ zs t ss now = [] ∧ fallL zs t ss now = [] ∧ fallT zs t ss now = 0 := by
  have hb : fallB zs t ss now = false := by rw [fallB, h]; rfl
  rw [fallZ, fallL, fallT, hb, h]
  exact ⟨rfl, rfl, rfl, rfl⟩
theorem fall_no {zs : List Int} {t : Int} {ss : List SeatL} (h : innOkB zs t ss = true) {now : Int} (hn : memB [] now = false ∨ now < t) : fallB zs t ss now = false ∧ fallZ zs t ss now = zs ∧ fallL zs t ss now = ss ∧ fallT zs t ss now = t := by
  have hb : fallB zs t ss now = false := by
    rw [fallB, h]
    rcases hn with hn | hn
    · rw [hn]; rfl
    · rw [decide_eq_true hn]; simp
  rw [fallZ, fallL, fallT, hb, h]
  exact ⟨rfl, rfl, rfl, rfl⟩
theorem fall_yes {zs : List Int} {t : Int} {ss : List SeatL} (h : innOkB zs t ss = true) {now : Int} (h1 : memB [] now = true) (h2 : ¬ now < t) : fallB zs t ss now = true ∧ fallZ zs t ss now = [] ∧ fallL zs t ss now = [] ∧ fallT zs t ss now = sinceI [] now := by
  have hb : fallB zs t ss now = true := by rw [fallB, h, h1, decide_eq_false h2]; rfl
  rw [fallZ, fallL, fallT, hb, h]
  exact ⟨rfl, rfl, rfl, rfl⟩

end Go.Proofs.Ytakhjdodljhfmaa.Tx

/-
  What the marks of a list of seats are: each number of each seat its own number, each log's cells theirs. No conditions.
-/
import Derived.Test.YtakhjdodljhfmaaInn4
namespace Go.Proofs.Ytakhjdodljhfmaa.Tx
open Go.RowKit

theorem setAll_past {g : Nat} : ∀ (vs : List Value) (k : Nat) {w : World} {p : Addr}, k + vs.length ≤ p.off → (setAll w g k vs).cell? p = w.cell? p
  | [], _, _, _, _ => rfl
  | v :: r, k, w, p, h => by
    rw [List.length_cons] at h
    rw [setAll, setAll_past r (k + 1) (by omega)]
    refine World.cell?_setCell_other _ _ _ _ (fun e => ?_)
    subst e
    change k + (r.length + 1) ≤ k at h
    omega
/-- How many marks a seat takes, and a list of them. -/
def seatN (x : SeatH) : Nat := 14 + x.n * 2
def marksN : List SeatH → Nat
  | [] => 0
  | x :: r => seatN x + marksN r
theorem marksN_append (a b : List SeatH) : marksN (a ++ b) = marksN a + marksN b := by
  induction a with
  | nil => simp [marksN]
  | cons x r ih => rw [List.cons_append, marksN, marksN, ih]; omega
/-- The first mark of seat j. -/
def kAt (k : Nat) (hs : List SeatH) (j : Nat) : Nat := k + marksN (hs.take j)
theorem kAt_zero (k : Nat) (hs : List SeatH) : kAt k hs 0 = k := by simp [kAt, marksN]
theorem kAt_step {k : Nat} {hs : List SeatH} {j : Nat} {x : SeatH} (h : hs[j]? = some x) : kAt k hs (j + 1) = kAt k hs j + 14 + x.n * 2 := by
  rw [kAt, kAt, List.take_add_one, h, marksN_append]
  show k + (marksN (hs.take j) + (seatN x + 0)) = _
  rw [seatN]; omega
theorem kAt_all {k : Nat} {hs : List SeatH} {n : Nat} (h : hs.length = n) : kAt k hs n = k + marksN hs := by rw [kAt, List.take_of_length_le (by omega)]
theorem marksN_le : ∀ (hs : List SeatH), (∀ x ∈ hs, x.n ≤ 1048576) → marksN hs ≤ hs.length * 2097166
  | [], _ => by simp [marksN]
  | x :: r, h => by
    have h1 := h x (List.mem_cons_self ..)
    have h2 := marksN_le r fun y hy => h y (List.mem_cons_of_mem _ hy)
    rw [marksN, seatN, List.length_cons]; omega
theorem kAt_le {k n : Nat} {hs : List SeatH} (j : Nat) (hk : k ≤ 4194304) (hl : hs.length = n) (hn : n ≤ 1048576) (hb : ∀ x ∈ hs, x.n ≤ 1048576) : kAt k hs j ≤ 2199050000000 := by
  have h1 := marksN_le (hs.take j) fun x hx => hb x (List.mem_of_mem_take hx)
  have h2 : (hs.take j).length ≤ 1048576 := by rw [List.length_take]; omega
  rw [kAt]; omega

/-- Fourteen numbers from K on, as cells. -/
structure FromK where
  K : Nat
def FromK.cells (m : FromK) : List Value := [.int .i64 (m.K : Int), .int .i64 ((m.K : Int) + 1), .int .i64 ((m.K : Int) + 1 + 1), .int .i64 ((m.K : Int) + 1 + 1 + 1), .int .i64 ((m.K : Int) + 1 + 1 + 1 + 1), .int .i64 ((m.K : Int) + 1 + 1 + 1 + 1 + 1), .int .i64 ((m.K : Int) + 1 + 1 + 1 + 1 + 1 + 1), .int .i64 ((m.K : Int) + 1 + 1 + 1 + 1 + 1 + 1 + 1), .int .i64 ((m.K : Int) + 1 + 1 + 1 + 1 + 1 + 1 + 1 + 1), .int .i64 ((m.K : Int) + 1 + 1 + 1 + 1 + 1 + 1 + 1 + 1 + 1), .int .i64 ((m.K : Int) + 1 + 1 + 1 + 1 + 1 + 1 + 1 + 1 + 1 + 1), .int .i64 ((m.K : Int) + 1 + 1 + 1 + 1 + 1 + 1 + 1 + 1 + 1 + 1 + 1), .int .i64 ((m.K : Int) + 1 + 1 + 1 + 1 + 1 + 1 + 1 + 1 + 1 + 1 + 1 + 1), .int .i64 ((m.K : Int) + 1 + 1 + 1 + 1 + 1 + 1 + 1 + 1 + 1 + 1 + 1 + 1 + 1)]
instance : Cells FromK := ⟨14, by decide, FromK.cells, fun _ => rfl, fun a v hv => by
  simp only [FromK.cells, List.mem_cons, List.not_mem_nil, or_false] at hv
  rcases hv with rfl | rfl | rfl | rfl | rfl | rfl | rfl | rfl | rfl | rfl | rfl | rfl | rfl | rfl <;> rfl⟩

/-- Where marking stands: the numbers of the first j seats and the logs of the first m are marked. -/
structure MarkJ (w wr : World) (base g n k : Nat) (hs : List SeatH) (j m : Nat) : Prop where
  there : There wr g 0 (n * 15)
  lt : g < wr.heap.size
  slot : ∀ (i : Nat) (x : SeatH), hs[i]? = some x → wr.cell? ⟨g, i * 15 + 14, none⟩ = some (.slice x.A x.n x.c)
  nums : ∀ (i : Nat) (x : SeatH), hs[i]? = some x → i < j → At wr g (i * 15) (FromK.mk (kAt k hs i))
  fill : ∀ (i : Nat) (x : SeatH), hs[i]? = some x → i < m → FillO wr x.A x.n (x.n * 2) (markF wordKs (kAt k hs i + 14))
  rest : ∀ (i : Nat) (x : SeatH), hs[i]? = some x → m ≤ i → HeldL wr base x.A x.n
  grown : GrownS w wr (FootS (some ⟨g, 0, none⟩) hs)
section
variable {w wr w1 : World} {base g n k j m : Nat} {hs : List SeatH}
theorem MarkJ.start {ss : List SeatL} (h : HeldS w base (some ⟨g, 0, none⟩) n hs ss) : MarkJ w w base g n k hs 0 0 := by
  rcases h.front with ⟨e, _⟩ | ⟨g', e, h1, h2, h3, h4⟩
  · cases e
  · obtain rfl : g = g' := by injection e with e; injection e
    refine ⟨h3, h2, fun i x hx => ?_, fun i x _ hi => absurd hi (Nat.not_lt_zero _), fun i x _ hi => absurd hi (Nat.not_lt_zero _), fun i x hx _ => ?_, GrownS.refl _ _⟩
    · exact h4 i x hx 14 _ rfl
    · have hj : i < ss.length := by rw [h.len2, ← h.len]; exact (List.getElem?_eq_some_iff.1 hx).1
      exact (h.log i x _ hx (List.getElem?_eq_getElem hj)).2.2.1
/-- The numbers of the next seat are marked. -/
theorem MarkJ.row (h : MarkJ w wr base g n k hs j j) (ap : ApartS (some ⟨g, 0, none⟩) hs) {x : SeatH} (hx : hs[j]? = some x) (hj : j < n) : MarkJ w (setAll wr g (j * 15) (FromK.cells ⟨kAt k hs j⟩)) base g n k hs (j + 1) j := by
  have hz : (setAll wr g (j * 15) (FromK.cells ⟨kAt k hs j⟩)).heap.size = wr.heap.size := setAll_size _ _ _
  have hoff : ∀ (i : Nat) (y : SeatH), hs[i]? = some y → ∀ t, blkA y.A = some t → (setAll wr g (j * 15) (FromK.cells ⟨kAt k hs j⟩)).heap[t]? = wr.heap[t]? := fun i y hy t ht => setAll_off (fun e => ap.front i y hy t ht (by rw [e]; rfl)) _ _
  refine ⟨There.setAll _ _ h.there, by rw [hz]; exact h.lt, fun i y hy => ?_, fun i y hy hi => ?_, fun i y hy hi => (h.fill i y hy hi).heap (Nat.le_of_eq hz.symm) (hoff i y hy), fun i y hy hi => (h.rest i y hy hi).heap (hoff i y hy) (Nat.le_of_eq hz.symm), ?_⟩
  · by_cases hi : i < j
    · rw [setAll_far _ _ (.inr (by show i * 15 + 14 < j * 15; omega))]; exact h.slot i y hy
    · rw [setAll_past _ _ (by show j * 15 + 14 ≤ i * 15 + 14; omega)]; exact h.slot i y hy
  · by_cases e : i = j
    · subst e
      exact At.new (c := n * 15) (FromK.mk (kAt k hs i)) h.there (by show i * 15 + 14 ≤ _; omega)
    · exact (h.nums i y hy (by omega)).far (by show i * 15 + 14 ≤ _; omega)
  · refine h.grown.trans ⟨?_, ?_, ?_, Nat.le_of_eq hz.symm, fun t _ hn => setAll_off (fun e => hn (by subst e; exact .inl rfl)) _ _⟩
    · exact (setAll_below (B := 0) (Nat.zero_le _) _ _ (Below.refl _ _)).os
    · exact (setAll_below (B := 0) (Nat.zero_le _) _ _ (Below.refl _ _)).tape
    · exact (setAll_below (B := 0) (Nat.zero_le _) _ _ (Below.refl _ _)).output
/-- Its log is marked. -/
theorem MarkJ.log (h : MarkJ w wr base g n k hs (j + 1) j) (ap : ApartS (some ⟨g, 0, none⟩) hs) {x : SeatH} (hx : hs[j]? = some x) (hF : FillO w1 x.A x.n (x.n * 2) (markF wordKs (kAt k hs j + 14))) (gr : wr.grownBy w1 (blkA x.A)) : MarkJ w w1 base g n k hs (j + 1) (j + 1) := by
  have hg : w1.heap[g]? = wr.heap[g]? := gr.block g h.lt fun e => ap.front j x hx g e.symm rfl
  have hoff : ∀ (i : Nat) (y : SeatH), hs[i]? = some y → i ≠ j → (∀ t, blkA y.A = some t → t < wr.heap.size) → ∀ t, blkA y.A = some t → w1.heap[t]? = wr.heap[t]? := fun i y hy hne hlt t ht => gr.block t (hlt t ht) fun e => ap.logs i j y x hy hx hne t ht e.symm
  refine ⟨h.there.heap hg, Nat.lt_of_lt_of_le h.lt gr.size, fun i y hy => (World.cell?_of_block (w := wr) (a := ⟨g, _, none⟩) hg).trans (h.slot i y hy), fun i y hy hi => (h.nums i y hy hi).heap hg, fun i y hy hi => ?_, fun i y hy hi => ?_, h.grown.trans (GrownS.of gr fun t ht => .inr ⟨j, x, hx, ht⟩)⟩
  · by_cases e : i = j
    · subst e
      obtain rfl : x = y := Option.some.inj (hx.symm.trans hy)
      exact hF
    · have hf := h.fill i y hy (by omega)
      exact hf.heap gr.size (hoff i y hy e fun t ht => hf.lt ht)
  · have hr := h.rest i y hy (by omega)
    exact hr.heap (hoff i y hy (by omega) fun t ht => (hr.lt ht).2) gr.size
end
/-- A list of seats that was marked from k on. -/
structure MarkedS (w : World) (A : Option Addr) (n k : Nat) (hs : List SeatH) : Prop where
  front : (A = none ∧ n = 0) ∨ ∃ g, A = some ⟨g, 0, none⟩ ∧ g < w.heap.size ∧ (∀ (i : Nat) (x : SeatH), hs[i]? = some x → w.cell? ⟨g, i * 15 + 14, none⟩ = some (.slice x.A x.n x.c)) ∧ ∀ (i : Nat) (x : SeatH), hs[i]? = some x → At w g (i * 15) (FromK.mk (kAt k hs i))
  fill : ∀ (i : Nat) (x : SeatH), hs[i]? = some x → FillO w x.A x.n (x.n * 2) (markF wordKs (kAt k hs i + 14))
section
variable {w w' : World} {A : Option Addr} {n k : Nat} {hs : List SeatH}
theorem MarkedS.lt (h : MarkedS w A n k hs) {t : Nat} (e : FootS A hs t) : t < w.heap.size := by
  rcases e with e | ⟨j, x, hx, e⟩
  · rcases h.front with ⟨rfl, _⟩ | ⟨g, rfl, h1, _⟩
    · cases e
    · obtain rfl := Option.some.inj e; exact h1
  · exact (h.fill j x hx).lt e
theorem MarkedS.heap (h : MarkedS w A n k hs) (he : ∀ t, FootS A hs t → w'.heap[t]? = w.heap[t]?) (hz : w.heap.size ≤ w'.heap.size) : MarkedS w' A n k hs := by
  refine ⟨?_, fun i x hx => (h.fill i x hx).heap hz fun t e => he t (.inr ⟨i, x, hx, e⟩)⟩
  rcases h.front with h1 | ⟨g, rfl, h1, h2, h3⟩
  · exact .inl h1
  · exact .inr ⟨g, rfl, by omega, fun i x hx => (World.cell?_of_block (w := w) (a := ⟨g, _, none⟩) (he g (.inl rfl))).trans (h2 i x hx), fun i x hx => (h3 i x hx).heap (he g (.inl rfl))⟩
theorem MarkedS.on (h : MarkedS w A n k hs) (b : Below w.heap.size w w') : MarkedS w' A n k hs := h.heap (fun t e => b.block t (h.lt e)) b.size
end
/-- An inn that was marked from k on. -/
structure MarkedI (w : World) (base : Nat) (i : InnH) (k : Nat) : Prop where
  mem : OwnN w base (marksL k i.mn) i.MA i.mn i.mc
  seats : MarkedS w i.A i.n (k + i.mn) i.hs
section
variable {w w' : World} {base k : Nat} {i : InnH}
theorem MarkedI.lt (h : MarkedI w base i k) {t : Nat} (e : FootI i t) : t < w.heap.size := by
  rcases e with e | e
  · exact (h.mem.lt e).2
  · exact h.seats.lt e
theorem MarkedI.heap (h : MarkedI w base i k) (he : ∀ t, FootI i t → w'.heap[t]? = w.heap[t]?) (hz : w.heap.size ≤ w'.heap.size) : MarkedI w' base i k := ⟨h.mem.heap fun t e => he t (.inl e), h.seats.heap (fun t e => he t (.inr e)) hz⟩
theorem MarkedI.on (h : MarkedI w base i k) (b : Below w.heap.size w w') : MarkedI w' base i k := h.heap (fun t e => b.block t (h.lt e)) b.size
end

end Go.Proofs.Ytakhjdodljhfmaa.Tx

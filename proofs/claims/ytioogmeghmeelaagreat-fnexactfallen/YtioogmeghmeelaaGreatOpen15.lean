/-
  An argument that is a box. No conditions.
  An argument that is a seat. No conditions.
  An argument that is a Memory. No conditions.
  An argument that is an inn. No conditions.
-/
import Derived.Test.YtioogmeghmeelaaGreatFlat
import Derived.Test.YtioogmeghmeelaaGreatBox0
import Derived.Test.YtioogmeghmeelaaGreatProg
import Derived.Test.YtioogmeghmeelaaGreatSeat0
import Derived.ProofKit
import Derived.WalkKit
import Derived.OpenShut
import Derived.Lib.SmallJoins
import Derived.Test.YtioogmeghmeelaaGreatNums
import Derived.Test.YtioogmeghmeelaaGreatMem0
import Derived.Test.YtioogmeghmeelaaGreatInn4
namespace Go.Proofs.YtioogmeghmeelaaGreat.Tx
open Go.RowKit

theorem fits_cons {k : FK} {ks : List FK} : ∀ {cs : List Value}, Fits (k :: ks) cs → ∃ v vs, cs = v :: vs ∧ k.fits v ∧ Fits ks vs
  | [], h => h.elim
  | v :: vs, h => ⟨v, vs, rfl, h.1, h.2⟩
theorem fits_key {cs : List Value} {ks : List FK} (h : Fits (.int :: .int :: .int :: .int :: ks) cs) : ∃ (k : KeyV) (vs : List Value), cs = .int .i64 k.u :: .int .i64 k.s :: .int .i64 k.h :: .int .i64 k.a :: vs ∧ Fits ks vs := by
  obtain ⟨_, _, rfl, ⟨u, rfl, _⟩, h1⟩ := fits_cons h
  obtain ⟨_, _, rfl, ⟨s, rfl, _⟩, h2⟩ := fits_cons h1
  obtain ⟨_, _, rfl, ⟨x, rfl, _⟩, h3⟩ := fits_cons h2
  obtain ⟨_, vs, rfl, ⟨a, rfl, _⟩, h4⟩ := fits_cons h3
  exact ⟨⟨u, s, x, a⟩, vs, rfl, h4⟩
theorem fits_box {cs : List Value} {ks : List FK} (h : Fits (.int :: .int :: .int :: .int :: .int :: .str :: .bool :: ks) cs) : ∃ (b : BoxV) (vs : List Value), cs = b.cells ++ vs ∧ b.t.size ≤ maxLen ∧ Fits ks vs := by
  obtain ⟨k, _, rfl, h1⟩ := fits_key h
  obtain ⟨_, _, rfl, ⟨n, rfl, _⟩, h2⟩ := fits_cons h1
  obtain ⟨_, _, rfl, ⟨t, rfl, ht⟩, h3⟩ := fits_cons h2
  obtain ⟨_, vs, rfl, ⟨b, rfl⟩, h4⟩ := fits_cons h3
  exact ⟨⟨k, n, t, b⟩, vs, rfl, ht, h4⟩
theorem fits_nil {cs : List Value} (h : Fits [] cs) : cs = [] := by
  cases cs with
  | nil => rfl
  | cons _ _ => exact h.elim

section
variable {H : Type} {enc : TypeId × Value → H} {w : World} {base : Nat} {spare : Nat → Bool} {held : Bool} {r : Reach} {b0 : Nat} {v : Value} {dd : DataW H} {p : List MemPlace}
end

end Go.Proofs.YtioogmeghmeelaaGreat.Tx
namespace Go.Proofs.YtioogmeghmeelaaGreat.Tx
open Go.RowKit Go.ChangeShapes Go.WideShapes

theorem fits_word {cs : List Value} (h : Fits [.str, .bool] cs) : ∃ q : WordV, cs = q.cells ∧ q.t.size ≤ maxLen := by
  obtain ⟨_, _, rfl, ⟨t, rfl, ht⟩, h1⟩ := fits_cons h
  obtain ⟨_, _, rfl, ⟨e, rfl⟩, h2⟩ := fits_cons h1
  obtain rfl := fits_nil h2
  exact ⟨⟨t, e⟩, rfl, ht⟩
theorem fits_front {cs : List Value} (h : Fits (List.replicate 14 FK.int) cs) : ∃ s : SeatV, cs = s.front := by
  simp only [List.replicate] at h
  obtain ⟨_, _, rfl, ⟨st, rfl, _⟩, g0⟩ := fits_cons h
  obtain ⟨_, _, rfl, ⟨sh, rfl, _⟩, g1⟩ := fits_cons g0
  obtain ⟨_, _, rfl, ⟨sd, rfl, _⟩, g2⟩ := fits_cons g1
  obtain ⟨_, _, rfl, ⟨sp, rfl, _⟩, g3⟩ := fits_cons g2
  obtain ⟨_, _, rfl, ⟨eu, rfl, _⟩, g4⟩ := fits_cons g3
  obtain ⟨_, _, rfl, ⟨es, rfl, _⟩, g5⟩ := fits_cons g4
  obtain ⟨_, _, rfl, ⟨eh, rfl, _⟩, g6⟩ := fits_cons g5
  obtain ⟨_, _, rfl, ⟨ea, rfl, _⟩, g7⟩ := fits_cons g6
  obtain ⟨_, _, rfl, ⟨en, rfl, _⟩, g8⟩ := fits_cons g7
  obtain ⟨_, _, rfl, ⟨fu, rfl, _⟩, g9⟩ := fits_cons g8
  obtain ⟨_, _, rfl, ⟨fs, rfl, _⟩, g10⟩ := fits_cons g9
  obtain ⟨_, _, rfl, ⟨fh, rfl, _⟩, g11⟩ := fits_cons g10
  obtain ⟨_, _, rfl, ⟨fa, rfl, _⟩, g12⟩ := fits_cons g11
  obtain ⟨_, _, rfl, ⟨fn, rfl, _⟩, g13⟩ := fits_cons g12
  obtain rfl := fits_nil g13
  exact ⟨⟨st, sh, sd, sp, ⟨⟨eu, es, eh, ea⟩, en⟩, ⟨⟨fu, fs, fh, fa⟩, fn⟩⟩, rfl⟩

section
variable {H : Type} {enc : TypeId × Value → H} {w : World} {base : Nat} {spare : Nat → Bool} {held : Bool} {fuel : Nat} {cs : List Value} {x : DataW H × List MemPlace}
set_option maxRecDepth 100000 in
theorem open_words (h : DataW.trod enc Tryz.prog w base spare held fuel 59 cs = some x) :
    ∃ (A : Option Addr) (len cap : Nat) (l : List WordV), cs = [.slice A len cap] ∧ EltsO w w.heap.size A len l ∧ len ≤ maxLen ∧ ∀ t ∈ l, t.t.size ≤ maxLen := by
  obtain ⟨A, len, cap, rfl, hl, hc⟩ := open_flats (d := 4) (sz := 2) (ks := [.str, .bool]) Tryz.underlying59 (by kernel_rfl) (by kernel_rfl) (by kernel_rfl) (by omega) h
  by_cases h0 : 0 < len
  · obtain ⟨b, off, hA, hb, hj⟩ := hc h0
    obtain ⟨bs, hbl, hbs⟩ := choose_list WordV.zero (fun j q => At w b (off + j * 2) q ∧ q.t.size ≤ maxLen) len (fun j hlt => by
      obtain ⟨vs, hf, _, hv⟩ := hj j hlt
      obtain ⟨q, rfl, ht⟩ := fits_word hf
      exact ⟨q, fun i v hi => hv i v hi, ht⟩)
    refine ⟨A, len, cap, bs, rfl, ⟨hbl, fun _ => ⟨b, off, hA, hb, fun j a ha => ?_⟩⟩, hl, fun q hq => ?_⟩
    · have hlt : j < len := by rw [← hbl]; exact (List.getElem?_eq_some_iff.1 ha).1
      have := (hbs j hlt).1
      rwa [ha] at this
    · obtain ⟨j, hlt, e⟩ := List.getElem_of_mem hq
      have := (hbs j (by omega)).2
      rw [List.getElem?_eq_getElem hlt, Option.getD_some, e] at this
      exact this
  · obtain rfl : len = 0 := by omega
    exact ⟨A, 0, cap, [], rfl, ⟨rfl, fun h => absurd h (by omega)⟩, hl, fun _ h => by cases h⟩
end

section
variable {H : Type} {enc : TypeId × Value → H} {w : World} {base : Nat} {spare : Nat → Bool} {held : Bool} {r : Reach} {b0 : Nat} {v : Value} {dd : DataW H} {p : List MemPlace}
set_option maxRecDepth 100000 in
theorem open_seat (hv : Value.okWide Tryz.prog w r b0 61 v) (h : DataW.Trod enc Tryz.prog w base spare held 61 v dd p) :
    ∃ (s : SeatV) (A : Option Addr) (n cap : Nat) (l : List WordV), v = s.val A n cap ∧ EltsO w w.heap.size A n l ∧ n ≤ maxLen ∧ ∀ t ∈ l, t.t.size ≤ maxLen := by
  obtain ⟨cs, rfl, _⟩ := okWide_struct Tryz.underlying61 hv
  obtain ⟨fuel, hf⟩ := h
  have hx : DataW.trod enc Tryz.prog w base spare held fuel 61 cs.toList = some (dd, p) := by simpa [Value.cells] using hf
  obtain ⟨xs, m, _, _, hl, hlen, hfd⟩ := DataW.trod_struct Tryz.underlying61 hx
  have hlen' : xs.length = 7 := hlen
  have hl15 : cs.toList.length = 15 := hl.trans (by kernel_rfl)
  obtain ⟨l0, hl0⟩ : ∃ l0, cs.toList = l0 := ⟨_, rfl⟩
  rw [hl0] at hl15 hfd hx
  have f0 : Fits [.int] ((l0.drop 0).take 1) := flat_fits 4 2 [.int] m _ (xs[0]'(by omega)) (by kernel_rfl) (by kernel_rfl) ((hfd 0 _ rfl).trans (List.getElem?_eq_getElem (by omega)))
  have f1 : Fits [.int] ((l0.drop 1).take 1) := flat_fits 4 2 [.int] m _ (xs[1]'(by omega)) (by kernel_rfl) (by kernel_rfl) ((hfd 1 _ rfl).trans (List.getElem?_eq_getElem (by omega)))
  have f2 : Fits [.int] ((l0.drop 2).take 1) := flat_fits 4 2 [.int] m _ (xs[2]'(by omega)) (by kernel_rfl) (by kernel_rfl) ((hfd 2 _ rfl).trans (List.getElem?_eq_getElem (by omega)))
  have f3 : Fits [.int] ((l0.drop 3).take 1) := flat_fits 4 2 [.int] m _ (xs[3]'(by omega)) (by kernel_rfl) (by kernel_rfl) ((hfd 3 _ rfl).trans (List.getElem?_eq_getElem (by omega)))
  have f4 : Fits [.int, .int, .int, .int, .int] ((l0.drop 4).take 5) := flat_fits 4 58 [.int, .int, .int, .int, .int] m _ (xs[4]'(by omega)) (by kernel_rfl) (by kernel_rfl) ((hfd 4 _ rfl).trans (List.getElem?_eq_getElem (by omega)))
  have f5 : Fits [.int, .int, .int, .int, .int] ((l0.drop 9).take 5) := flat_fits 4 58 [.int, .int, .int, .int, .int] m _ (xs[5]'(by omega)) (by kernel_rfl) (by kernel_rfl) ((hfd 5 _ rfl).trans (List.getElem?_eq_getElem (by omega)))
  obtain ⟨A, n, cap, l, hs, hE, hn, hz⟩ := open_words (x := xs[6]'(by omega)) ((hfd 6 _ rfl).trans (List.getElem?_eq_getElem (by omega)))
  have j : ∀ a b c, (l0.drop a).take b ++ (l0.drop (a + b)).take c = (l0.drop a).take (b + c) := fun a b c => by
    rw [List.take_add, List.drop_drop]
  have F := Fits.append f0 (Fits.append f1 (Fits.append f2 (Fits.append f3 (Fits.append f4 f5))))
  rw [j 4 5 5, j 3 1 10, j 2 1 11, j 1 1 12, j 0 1 13, List.drop_zero] at F
  obtain ⟨s, hs0⟩ := fits_front F
  have h14 : l0.drop 14 = [.slice A n cap] := by
    rw [← hs]
    show l0.drop 14 = (l0.drop 14).take 1
    rw [List.take_of_length_le (by rw [List.length_drop]; omega)]
  have e : l0 = s.cells A n cap := by rw [SeatV.cells, ← hs0, ← h14, List.take_append_drop]
  exact ⟨s, A, n, cap, l, by rw [SeatV.val, ← e, ← hl0], hE, hn, hz⟩
end

end Go.Proofs.YtioogmeghmeelaaGreat.Tx
namespace Go.Proofs.YtioogmeghmeelaaGreat.Tx
open Go.RowKit Go.ChangeShapes Go.WideShapes

section
variable {H : Type} {enc : TypeId × Value → H} {w : World} {base b0 : Nat} {r : Reach} {held : Bool} {v : Value} {d : DataW H} {p : List MemPlace}
set_option maxRecDepth 100000 in
theorem open_mem (hv : Value.okWide Tryz.prog w r b0 24 v) (h : DataW.Trod enc Tryz.prog w base (fun _ => true) held 24 v d p) :
    ∃ (A : Option Addr) (n cap : Nat) (zs : List Int) (s : Int), v = .agg #[.slice A n cap, .int .i64 s] ∧ Nums w w.heap.size A n zs ∧ n ≤ maxLen ∧ AllI64 zs := by
  obtain ⟨c0, c1, y0, y1, m, rfl, _, _, h0, h1⟩ := Go.Joins.open_agg2 Tryz.underlying24 (by kernel_rfl) (by kernel_rfl) hv h
  obtain ⟨s, e1, _, _⟩ := DataW.trod_int Tryz.underlying2 h1
  simp only [List.cons.injEq, and_true] at e1
  subst e1
  rcases open_ints Tryz.underlying22 Tryz.underlying2 (by kernel_rfl) h0 with ⟨hcs, _⟩ | ⟨x, l, c, zs, hcs, _, hl, hm, hz, _, hcell, hwz⟩
  · simp at hcs
    subst hcs
    exact ⟨none, 0, 0, [], s, rfl, nums_nil _ _ _, by unfold maxLen; omega, allI64_nil⟩
  · simp at hcs
    subst hcs
    simp only [if_true] at hz
    exact ⟨some x, l, c, zs.take l, s, rfl, nums_of_open (by omega) hcell, by omega, fun z hz' => hwz z (List.mem_of_mem_take hz')⟩
end

end Go.Proofs.YtioogmeghmeelaaGreat.Tx
namespace Go.Proofs.YtioogmeghmeelaaGreat.Tx
open Go.RowKit Go.ChangeShapes Go.WideShapes

section
variable {H : Type} {enc : TypeId × Value → H} {P : Program} {w : World} {base : Nat} {spare : Nat → Bool} {held : Bool}
/-- A slice, its elements told one by one. -/
theorem open_rows {t e : TypeId} {fuel : Nat} {cs : List Value} {x : DataW H × List MemPlace} {sz : Nat} (ht : P.underlying t = some (.slice e)) (hc : P.cellsOf e = sz) (hsz : 0 < sz) (h : DataW.trod enc P w base spare held fuel t cs = some x) :
    ∃ (A : Option Addr) (len cap : Nat), cs = [.slice A len cap] ∧ (A = none → cap = 0) ∧ len ≤ maxLen ∧ (0 < len → ∃ b off, A = some ⟨b, off, none⟩ ∧ b < w.heap.size ∧ ∀ j, j < len → ∃ (vs : List Value) (m : Nat) (y : DataW H × List MemPlace), DataW.trod enc P w base spare held m e vs = some y ∧ vs.length = sz ∧ ∀ i v, vs[i]? = some v → w.cell? ⟨b, off + j * sz + i, none⟩ = some v) := by
  rcases DataW.trod_slice ht h with ⟨rfl, _⟩ | ⟨a, len, cap, elems, rest, n, _, rfl, _, hb, hl, hm, hlen, hel, _, _⟩
  · exact ⟨none, 0, 0, rfl, fun _ => rfl, Nat.zero_le _, fun h => absurd h (by omega)⟩
  · refine ⟨some a, len, cap, rfl, (fun e => by cases e), by omega, fun h0 => ?_⟩
    have each : ∀ j, j < len → ∃ (vs : List Value) (m : Nat) (y : DataW H × List MemPlace), DataW.trod enc P w base spare held m e vs = some y ∧ vs.length = sz ∧ ∀ i, i < sz → w.cell? ((a.add (j * sz)).add i) = vs[i]? := fun j hj => by
      have h1 := hel j hj
      rw [hc, List.getElem?_eq_getElem (by omega), Option.bind_eq_some_iff] at h1
      obtain ⟨vs, hv, hx⟩ := h1
      have hs := World.cells?_some hv
      exact ⟨vs, n, _, hx, hs.2.1, hs.2.2⟩
    obtain ⟨b, off, spot⟩ := a
    have hspot : spot = none := by
      obtain ⟨vs, _, _, _, hl0, hcell⟩ := each 0 h0
      have h2 := hcell 0 hsz
      rw [List.getElem?_eq_getElem (by omega)] at h2
      simpa [Addr.add] using World.cell?_spot h2
    subst hspot
    refine ⟨b, off, rfl, ?_, fun j hj => ?_⟩
    · obtain ⟨vs, _, _, _, hl0, hcell⟩ := each 0 h0
      have h2 := hcell 0 hsz
      rw [List.getElem?_eq_getElem (by omega), Go.WideShapes.add_plain, Go.WideShapes.add_plain] at h2
      exact World.block_lt_of_cell? _ _ h2
    · obtain ⟨vs, m, y, hf, hl0, hcell⟩ := each j hj
      refine ⟨vs, m, y, hf, hl0, fun i v hv => ?_⟩
      have hi : i < sz := by rw [← hl0]; exact (List.getElem?_eq_some_iff.1 hv).1
      have := hcell i hi
      rw [Go.WideShapes.add_plain, Go.WideShapes.add_plain] at this
      exact this.trans hv
end

section
variable {H : Type} {enc : TypeId × Value → H} {w : World} {base : Nat} {spare : Nat → Bool} {held : Bool} {fuel : Nat} {cs : List Value} {x : DataW H × List MemPlace}
set_option maxRecDepth 100000 in
theorem open_words0 (h : DataW.trod enc Tryz.prog w base spare held fuel 59 cs = some x) :
    ∃ (A : Option Addr) (len cap : Nat) (l : List WordV), cs = [.slice A len cap] ∧ EltsO w w.heap.size A len l ∧ len ≤ maxLen ∧ (∀ t ∈ l, t.t.size ≤ maxLen) ∧ (A = none → cap = 0) := by
  obtain ⟨A, len, cap, l, rfl, h1, h2, h3⟩ := open_words h
  obtain ⟨A', len', cap', e, h4, _⟩ := open_rows (sz := 2) Tryz.underlying59 (by kernel_rfl) (by omega) h
  injection e with e _
  injection e with e1 e2 e3
  subst e1 e2 e3
  exact ⟨A, len, cap, l, rfl, h1, h2, h3, h4⟩
set_option maxRecDepth 100000 in
theorem open_seat0 (hx : DataW.trod enc Tryz.prog w base spare held fuel 61 cs = some x) :
    ∃ (s : SeatV) (A : Option Addr) (n cap : Nat) (l : List WordV), cs = s.cells A n cap ∧ EltsO w w.heap.size A n l ∧ n ≤ maxLen ∧ (∀ t ∈ l, t.t.size ≤ maxLen) ∧ (A = none → cap = 0) := by
  obtain ⟨xs, m, _, _, hl, hlen, hfd⟩ := DataW.trod_struct Tryz.underlying61 hx
  have hlen' : xs.length = 7 := hlen
  have hl15 : cs.length = 15 := hl.trans (by kernel_rfl)
  obtain ⟨l0, hl0⟩ : ∃ l0, cs = l0 := ⟨_, rfl⟩
  rw [hl0] at hl15 hfd hx
  have f0 : Fits [.int] ((l0.drop 0).take 1) := flat_fits 4 2 [.int] m _ (xs[0]'(by omega)) (by kernel_rfl) (by kernel_rfl) ((hfd 0 _ rfl).trans (List.getElem?_eq_getElem (by omega)))
  have f1 : Fits [.int] ((l0.drop 1).take 1) := flat_fits 4 2 [.int] m _ (xs[1]'(by omega)) (by kernel_rfl) (by kernel_rfl) ((hfd 1 _ rfl).trans (List.getElem?_eq_getElem (by omega)))
  have f2 : Fits [.int] ((l0.drop 2).take 1) := flat_fits 4 2 [.int] m _ (xs[2]'(by omega)) (by kernel_rfl) (by kernel_rfl) ((hfd 2 _ rfl).trans (List.getElem?_eq_getElem (by omega)))
  have f3 : Fits [.int] ((l0.drop 3).take 1) := flat_fits 4 2 [.int] m _ (xs[3]'(by omega)) (by kernel_rfl) (by kernel_rfl) ((hfd 3 _ rfl).trans (List.getElem?_eq_getElem (by omega)))
  have f4 : Fits [.int, .int, .int, .int, .int] ((l0.drop 4).take 5) := flat_fits 4 58 [.int, .int, .int, .int, .int] m _ (xs[4]'(by omega)) (by kernel_rfl) (by kernel_rfl) ((hfd 4 _ rfl).trans (List.getElem?_eq_getElem (by omega)))
  have f5 : Fits [.int, .int, .int, .int, .int] ((l0.drop 9).take 5) := flat_fits 4 58 [.int, .int, .int, .int, .int] m _ (xs[5]'(by omega)) (by kernel_rfl) (by kernel_rfl) ((hfd 5 _ rfl).trans (List.getElem?_eq_getElem (by omega)))
  obtain ⟨A, n, cap, l, hs, hE, hn, hz, hc⟩ := open_words0 (x := xs[6]'(by omega)) ((hfd 6 _ rfl).trans (List.getElem?_eq_getElem (by omega)))
  have j : ∀ a b c, (l0.drop a).take b ++ (l0.drop (a + b)).take c = (l0.drop a).take (b + c) := fun a b c => by
    rw [List.take_add, List.drop_drop]
  have F := Fits.append f0 (Fits.append f1 (Fits.append f2 (Fits.append f3 (Fits.append f4 f5))))
  rw [j 4 5 5, j 3 1 10, j 2 1 11, j 1 1 12, j 0 1 13, List.drop_zero] at F
  obtain ⟨s, hs0⟩ := fits_front F
  have h14 : l0.drop 14 = [.slice A n cap] := by
    rw [← hs]
    show l0.drop 14 = (l0.drop 14).take 1
    rw [List.take_of_length_le (by rw [List.length_drop]; omega)]
  have e : l0 = s.cells A n cap := by rw [SeatV.cells, ← hs0, ← h14, List.take_append_drop]
  exact ⟨s, A, n, cap, l, hl0.trans e, hE, hn, hz, hc⟩
set_option maxRecDepth 100000 in
theorem open_seats0 (h : DataW.trod enc Tryz.prog w base spare held fuel 25 cs = some x) :
    ∃ (A : Option Addr) (n cap : Nat) (ss : List SeatL), cs = [.slice A n cap] ∧ SeatsO w w.heap.size A n ss ∧ n ≤ maxLen ∧ ∀ q ∈ ss, q.l.length ≤ maxLen ∧ ∀ t ∈ q.l, t.t.size ≤ maxLen := by
  obtain ⟨A, n, cap, rfl, _, hn, hc⟩ := open_rows (sz := 15) Tryz.underlying25 (by kernel_rfl) (by omega) h
  by_cases h0 : 0 < n
  · obtain ⟨b, off, hA, hb, hj⟩ := hc h0
    obtain ⟨ps, hpl, hps⟩ := choose_list (α := SeatH × List WordV) (⟨.zero, none, 0, 0⟩, []) (fun j p => At w b (off + j * 15) p.1 ∧ EltsO w w.heap.size p.1.A p.1.n p.2 ∧ p.1.n ≤ maxLen ∧ (∀ t ∈ p.2, t.t.size ≤ maxLen) ∧ (p.1.A = none → p.1.c = 0)) n (fun j hlt => by
      obtain ⟨vs, m, y, hf, _, hv⟩ := hj j hlt
      obtain ⟨s, A', n', c', l, rfl, h1, h2, h3, h4⟩ := open_seat0 hf
      exact ⟨(⟨s, A', n', c'⟩, l), fun i v hi => hv i v hi, h1, h2, h3, h4⟩)
    have hp : ∀ (j : Nat) (p : SeatH × List WordV), ps[j]? = some p → At w b (off + j * 15) p.1 ∧ EltsO w w.heap.size p.1.A p.1.n p.2 ∧ p.1.n ≤ maxLen ∧ (∀ t ∈ p.2, t.t.size ≤ maxLen) ∧ (p.1.A = none → p.1.c = 0) := fun j p hp => by
      have hlt : j < n := by rw [← hpl]; exact (List.getElem?_eq_some_iff.1 hp).1
      have := hps j hlt
      rwa [hp] at this
    refine ⟨A, n, cap, ps.map fun p => ⟨p.1.s, p.2⟩, rfl, ⟨ps.map Prod.fst, ⟨by rw [List.length_map, hpl], fun _ => ⟨b, off, hA, hb, fun j a ha => ?_⟩⟩, by rw [List.length_map, List.length_map], fun j x q hx hq => ?_⟩, hn, fun q hq => ?_⟩
    · rw [List.getElem?_map] at ha
      obtain ⟨p, hp0, rfl⟩ := Option.map_eq_some_iff.1 ha
      exact (hp j p hp0).1
    · rw [List.getElem?_map] at hx hq
      obtain ⟨p, hp0, rfl⟩ := Option.map_eq_some_iff.1 hx
      obtain ⟨p', hp1, rfl⟩ := Option.map_eq_some_iff.1 hq
      obtain rfl : p = p' := Option.some.inj (hp0.symm.trans hp1)
      exact ⟨rfl, (hp j p hp0).2.1, (hp j p hp0).2.2.2.2⟩
    · obtain ⟨p, hp0, rfl⟩ := List.mem_map.1 hq
      obtain ⟨j, hlt, e⟩ := List.getElem_of_mem hp0
      have h9 := hp j p (by rw [← e]; exact List.getElem?_eq_getElem hlt)
      exact ⟨by rw [h9.2.1.1]; exact h9.2.2.1, h9.2.2.2.1⟩
  · obtain rfl : n = 0 := by omega
    exact ⟨A, 0, cap, [], rfl, ⟨[], ⟨rfl, fun h => absurd h (by omega)⟩, rfl, fun j x q hx => by simp at hx⟩, hn, fun q hq => by cases hq⟩
set_option maxRecDepth 100000 in
theorem open_mem0 (hx : DataW.trod enc Tryz.prog w base spare held fuel 24 cs = some x) :
    ∃ (A : Option Addr) (n cap : Nat) (zs : List Int) (s : Int), cs = [.slice A n cap, .int .i64 s] ∧ Nums w w.heap.size A n zs ∧ n ≤ maxLen ∧ AllI64 zs := by
  obtain ⟨xs, m, _, _, hl, hlen, hfd⟩ := DataW.trod_struct Tryz.underlying24 hx
  have hlen' : xs.length = 2 := hlen
  have hl2 : cs.length = 2 := hl.trans (by kernel_rfl)
  obtain ⟨A, n, cap, e0, _, hn, hc⟩ := open_rows (x := xs[0]'(by omega)) (sz := 1) Tryz.underlying22 (by kernel_rfl) (by omega) ((hfd 0 _ rfl).trans (List.getElem?_eq_getElem (by omega)))
  obtain ⟨s, e1, _, _⟩ := DataW.trod_int (x := xs[1]'(by omega)) Tryz.underlying2 ((hfd 1 _ rfl).trans (List.getElem?_eq_getElem (by omega)))
  have ec : cs = [.slice A n cap, .int .i64 s] := by
    obtain ⟨a, b, rfl⟩ : ∃ a b, cs = [a, b] := by
      match cs, hl2 with
      | [a, b], _ => exact ⟨a, b, rfl⟩
    have h0 : [a] = [Value.slice A n cap] := e0
    have h1 : [b] = [Value.int .i64 s] := e1
    rw [(List.cons.inj h0).1, (List.cons.inj h1).1]
  subst ec
  by_cases h0 : 0 < n
  · obtain ⟨b, off, hA, hb, hj⟩ := hc h0
    obtain ⟨zs, hzl, hzs⟩ := choose_list (0 : Int) (fun j z => w.cell? ⟨b, off + j, none⟩ = some (.int .i64 z) ∧ (Lit.int .i64 z).wf = true) n (fun j hlt => by
      obtain ⟨vs, m, y, hf, _, hv⟩ := hj j hlt
      obtain ⟨z, rfl, _, hw⟩ := DataW.trod_int Tryz.underlying2 hf
      have := hv 0 _ rfl
      rw [Nat.mul_one, Nat.add_zero] at this
      exact ⟨z, this, hw⟩)
    refine ⟨A, n, cap, zs, s, rfl, ⟨hzl, fun _ => ⟨b, off, hA, hb, fun j hlt => (hzs j hlt).1⟩⟩, hn, fun z hz => ?_⟩
    obtain ⟨j, hlt, e⟩ := List.getElem_of_mem hz
    have := (hzs j (by omega)).2
    rw [List.getElem?_eq_getElem hlt, Option.getD_some, e] at this
    exact this
  · obtain rfl : n = 0 := by omega
    exact ⟨A, 0, cap, [], s, rfl, ⟨rfl, fun h => absurd h (by omega)⟩, hn, fun z hz => by cases hz⟩
end

section
variable {H : Type} {enc : TypeId × Value → H} {w : World} {base : Nat} {spare : Nat → Bool} {held : Bool} {r : Reach} {b0 : Nat} {v : Value} {dd : DataW H} {p : List MemPlace}
set_option maxRecDepth 100000 in
theorem open_inn (hv : Value.okWide Tryz.prog w r b0 27 v) (h : DataW.Trod enc Tryz.prog w base spare held 27 v dd p) :
    ∃ (M : Option Addr) (nm cm : Nat) (zs : List Int) (s : Int) (A : Option Addr) (n cap : Nat) (ss : List SeatL), v = .agg #[.slice M nm cm, .int .i64 s, .slice A n cap] ∧ InnO w w.heap.size M nm A n zs ss ∧ nm ≤ maxLen ∧ AllI64 zs ∧ n ≤ maxLen ∧ ∀ q ∈ ss, q.l.length ≤ maxLen ∧ ∀ t ∈ q.l, t.t.size ≤ maxLen := by
  obtain ⟨cs, rfl, _⟩ := okWide_struct Tryz.underlying27 hv
  obtain ⟨fuel, hf⟩ := h
  have hx : DataW.trod enc Tryz.prog w base spare held fuel 27 cs.toList = some (dd, p) := by simpa [Value.cells] using hf
  obtain ⟨xs, m, _, _, hl, hlen, hfd⟩ := DataW.trod_struct Tryz.underlying27 hx
  have hlen' : xs.length = 2 := hlen
  have hl3 : cs.toList.length = 3 := hl.trans (by kernel_rfl)
  obtain ⟨M, nm, cm, zs, s, e0, h1, h2, h3⟩ := open_mem0 (x := xs[0]'(by omega)) ((hfd 0 _ rfl).trans (List.getElem?_eq_getElem (by omega)))
  obtain ⟨A, n, cap, ss, e1, h4, h5, h6⟩ := open_seats0 (x := xs[1]'(by omega)) ((hfd 1 _ rfl).trans (List.getElem?_eq_getElem (by omega)))
  obtain ⟨l0, hl0⟩ : ∃ l0, cs.toList = l0 := ⟨_, rfl⟩
  rw [hl0] at hl3 e0 e1
  have ec : l0 = [.slice M nm cm, .int .i64 s, .slice A n cap] := by
    obtain ⟨a, b, c, rfl⟩ : ∃ a b c, l0 = [a, b, c] := by
      match l0, hl3 with
      | [a, b, c], _ => exact ⟨a, b, c, rfl⟩
    have h0 : [a, b] = [Value.slice M nm cm, .int .i64 s] := e0
    have h1 : [c] = [Value.slice A n cap] := e1
    rw [(List.cons.inj h0).1, (List.cons.inj (List.cons.inj h0).2).1, (List.cons.inj h1).1]
  refine ⟨M, nm, cm, zs, s, A, n, cap, ss, ?_, ⟨h1, h4⟩, h2, h3, h5, h6⟩
  rw [← ec, ← hl0]
end

end Go.Proofs.YtioogmeghmeelaaGreat.Tx

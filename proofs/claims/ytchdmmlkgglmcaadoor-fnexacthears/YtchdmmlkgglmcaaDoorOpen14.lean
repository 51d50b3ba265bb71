/-
  An argument that is a seat. No conditions.
-/
import Derived.Test.YtchdmmlkgglmcaaDoorOpen4
import Derived.Test.YtchdmmlkgglmcaaDoorSeat0
namespace Go.Proofs.YtchdmmlkgglmcaaDoor.Tx
open Go.RowKit Go.ChangeShapes Go.WideShapes

theorem fits_word {cs : List Value} (h : Fits [.str, .bool] cs) : ∃ q : WordV, cs = q.cells ∧ q.t.size ≤ maxLen := by
  obtain ⟨_, _, rfl, ⟨t, rfl, ht⟩, h1⟩ := fits_cons h
  obtain ⟨_, _, rfl, ⟨e, rfl⟩, h2⟩ := fits_cons h1
  obtain rfl := fits_nil h2
  exact ⟨⟨t, e⟩, rfl, ht⟩
theorem fits_front {cs : List Value} (h : Fits (List.replicate 14 FK.int) cs) : ∃ s : SeatV, cs = s.front := by
  simp only [List.replicate] at h
  obtain ⟨_, _, rfl, ⟨st, rfl, _⟩, g0⟩ := fits_cons h
  obtain ⟨_, _, rfl, ⟨sh, rfl, _⟩, g1⟩ := fits_cons g0
  obtain ⟨_, _, rfl, ⟨sd, rfl, _⟩, g2⟩ := fits_cons g1
  obtain ⟨_, _, rfl, ⟨sp, rfl, _⟩, g3⟩ := fits_cons g2
  obtain ⟨_, _, rfl, ⟨eu, rfl, _⟩, g4⟩ := fits_cons g3
  obtain ⟨_, _, rfl, ⟨es, rfl, _⟩, g5⟩ := fits_cons g4
  obtain ⟨_, _, rfl, ⟨eh, rfl, _⟩, g6⟩ := fits_cons g5
  obtain ⟨_, _, rfl, ⟨ea, rfl, _⟩, g7⟩ := fits_cons g6
  obtain ⟨_, _, rfl, ⟨en, rfl, _⟩, g8⟩ := fits_cons g7
  obtain ⟨_, _, rfl, ⟨fu, rfl, _⟩, g9⟩ := fits_cons g8
  obtain ⟨_, _, rfl, ⟨fs, rfl, _⟩, g10⟩ := fits_cons g9
  obtain ⟨_, _, rfl, ⟨fh, rfl, _⟩, g11⟩ := fits_cons g10
  obtain ⟨_, _, rfl, ⟨fa, rfl, _⟩, g12⟩ := fits_cons g11
  obtain ⟨_, _, rfl, ⟨fn, rfl, _⟩, g13⟩ := fits_cons g12
  obtain rfl := fits_nil g13
  exact ⟨⟨st, sh, sd, sp, ⟨⟨eu, es, eh, ea⟩, en⟩, ⟨⟨fu, fs, fh, fa⟩, fn⟩⟩, rfl⟩

section
variable {H : Type} {enc : TypeId × Value → H} {w : World} {base : Nat} {spare : Nat → Bool} {held : Bool} {fuel : Nat} {cs : List Value} {x : DataW H × List MemPlace}
set_option maxRecDepth 100000 in
theorem open_words (h : DataW.trod enc Tryd.prog w base spare held fuel 54 cs = some x) :
    ∃ (A : Option Addr) (len cap : Nat) (l : List WordV), cs = [.slice A len cap] ∧ EltsO w w.heap.size A len l ∧ len ≤ maxLen ∧ ∀ t ∈ l, t.t.size ≤ maxLen := by
  obtain ⟨A, len, cap, rfl, hl, hc⟩ := open_flats (d := 4) (sz := 2) (ks := [.str, .bool]) Tryd.underlying54 (by kernel_rfl) (by kernel_rfl) (by kernel_rfl) (by omega) h
  by_cases h0 : 0 < len
  · obtain ⟨b, off, hA, hb, hj⟩ := hc h0
    obtain ⟨bs, hbl, hbs⟩ := choose_list WordV.zero (fun j q => At w b (off + j * 2) q ∧ q.t.size ≤ maxLen) len (fun j hlt => by
      obtain ⟨vs, hf, _, hv⟩ := hj j hlt
      obtain ⟨q, rfl, ht⟩ := fits_word hf
      exact ⟨q, fun i v hi => hv i v hi, ht⟩)
    refine ⟨A, len, cap, bs, rfl, ⟨hbl, fun _ => ⟨b, off, hA, hb, fun j a ha => ?_⟩⟩, hl, fun q hq => ?_⟩
    · have hlt : j < len := by rw [← hbl]; exact (List.getElem?_eq_some_iff.1 ha).1
      have := (hbs j hlt).1
      rwa [ha] at this
    · obtain ⟨j, hlt, e⟩ := List.getElem_of_mem hq
      have := (hbs j (by omega)).2
      rw [List.getElem?_eq_getElem hlt, Option.getD_some, e] at this
      exact this
  · obtain rfl : len = 0 := by omega
    exact ⟨A, 0, cap, [], rfl, ⟨rfl, fun h => absurd h (by omega)⟩, hl, fun _ h => by cases h⟩
end

section
variable {H : Type} {enc : TypeId × Value → H} {w : World} {base : Nat} {spare : Nat → Bool} {held : Bool} {r : Reach} {b0 : Nat} {v : Value} {dd : DataW H} {p : List MemPlace}
set_option maxRecDepth 100000 in
theorem open_seat (hv : Value.okWide Tryd.prog w r b0 56 v) (h : DataW.Trod enc Tryd.prog w base spare held 56 v dd p) :
    ∃ (s : SeatV) (A : Option Addr) (n cap : Nat) (l : List WordV), v = s.val A n cap ∧ EltsO w w.heap.size A n l ∧ n ≤ maxLen ∧ ∀ t ∈ l, t.t.size ≤ maxLen := by
  obtain ⟨cs, rfl, _⟩ := okWide_struct Tryd.underlying56 hv
  obtain ⟨fuel, hf⟩ := h
  have hx : DataW.trod enc Tryd.prog w base spare held fuel 56 cs.toList = some (dd, p) := by simpa [Value.cells] using hf
  obtain ⟨xs, m, _, _, hl, hlen, hfd⟩ := DataW.trod_struct Tryd.underlying56 hx
  have hlen' : xs.length = 7 := hlen
  have hl15 : cs.toList.length = 15 := hl.trans (by kernel_rfl)
  obtain ⟨l0, hl0⟩ : ∃ l0, cs.toList = l0 := ⟨_, rfl⟩
  rw [hl0] at hl15 hfd hx
  have f0 : Fits [.int] ((l0.drop 0).take 1) := flat_fits 4 2 [.int] m _ (xs[0]'(by omega)) (by kernel_rfl) (by kernel_rfl) ((hfd 0 _ rfl).trans (List.getElem?_eq_getElem (by omega)))
  have f1 : Fits [.int] ((l0.drop 1).take 1) := flat_fits 4 2 [.int] m _ (xs[1]'(by omega)) (by kernel_rfl) (by kernel_rfl) ((hfd 1 _ rfl).trans (List.getElem?_eq_getElem (by omega)))
  have f2 : Fits [.int] ((l0.drop 2).take 1) := flat_fits 4 2 [.int] m _ (xs[2]'(by omega)) (by kernel_rfl) (by kernel_rfl) ((hfd 2 _ rfl).trans (List.getElem?_eq_getElem (by omega)))
  have f3 : Fits [.int] ((l0.drop 3).take 1) := flat_fits 4 2 [.int] m _ (xs[3]'(by omega)) (by kernel_rfl) (by kernel_rfl) ((hfd 3 _ rfl).trans (List.getElem?_eq_getElem (by omega)))
  have f4 : Fits [.int, .int, .int, .int, .int] ((l0.drop 4).take 5) := flat_fits 4 53 [.int, .int, .int, .int, .int] m _ (xs[4]'(by omega)) (by kernel_rfl) (by kernel_rfl) ((hfd 4 _ rfl).trans (List.getElem?_eq_getElem (by omega)))
  have f5 : Fits [.int, .int, .int, .int, .int] ((l0.drop 9).take 5) := flat_fits 4 53 [.int, .int, .int, .int, .int] m _ (xs[5]'(by omega)) (by kernel_rfl) (by kernel_rfl) ((hfd 5 _ rfl).trans (List.getElem?_eq_getElem (by omega)))
  obtain ⟨A, n, cap, l, hs, hE, hn, hz⟩ := open_words (x := xs[6]'(by omega)) ((hfd 6 _ rfl).trans (List.getElem?_eq_getElem (by omega)))
  have j : ∀ a b c, (l0.drop a).take b ++ (l0.drop (a + b)).take c = (l0.drop a).take (b + c) := fun a b c => by
    rw [List.take_add, List.drop_drop]
  have F := Fits.append f0 (Fits.append f1 (Fits.append f2 (Fits.append f3 (Fits.append f4 f5))))
  rw [j 4 5 5, j 3 1 10, j 2 1 11, j 1 1 12, j 0 1 13, List.drop_zero] at F
  obtain ⟨s, hs0⟩ := fits_front F
  have h14 : l0.drop 14 = [.slice A n cap] := by
    rw [← hs]
    show l0.drop 14 = (l0.drop 14).take 1
    rw [List.take_of_length_le (by rw [List.length_drop]; omega)]
  have e : l0 = s.cells A n cap := by rw [SeatV.cells, ← hs0, ← h14, List.take_append_drop]
  exact ⟨s, A, n, cap, l, by rw [SeatV.val, ← e, ← hl0], hE, hn, hz⟩
end

end Go.Proofs.YtchdmmlkgglmcaaDoor.Tx

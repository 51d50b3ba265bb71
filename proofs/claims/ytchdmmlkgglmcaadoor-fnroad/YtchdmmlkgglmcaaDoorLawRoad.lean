/-
  What likeSeat of the laws says of two seats that read alike. Condition: at most 1048576 words.
  Strings that a call made, as the laws' helpers take them. No conditions.
  Plain facts on what a seat hears: what is taken, what stays, that it stays right. No conditions.
  What textsIn of the program hands out: each string of the list with its place, in order; and what BytesOf, Upto and Begins of the program and of the model answer. Conditions: the lists have at most 1048576 strings, and as many bytes together.
  What Begins of the program and of the model answer: whether the first list is the beginning of the second, or all of it. Condition: each list has at most 1048576 strings.
  Plain facts on a seat and the boxes that are meant for it: whatever comes, it hears the beginning. No conditions.
  What digits of the laws answers, and what the model draws for a list of texts. Conditions: the number is from 0 to 2^63 - 1; the draw's code has at most 4096 bytes.
  The law FnRoad returns true at every code, and the code reads behind the call as it read before: of all boxes that are meant for a seat, whatever is lost, doubled or comes too early, it hears the beginning. Conditions: those that the card itself names (the listed variables of the library hold what its text lays in them).
-/
import Derived.Test.YtchdmmlkgglmcaaDoorSeat3
import Derived.Test.YtchdmmlkgglmcaaDoorRegionL
import Derived.Test.YtchdmmlkgglmcaaDoorSeat6
import Derived.Test.YtchdmmlkgglmcaaDoorSeat4
import Derived.Test.YtchdmmlkgglmcaaDoorHears
import Derived.Test.YtchdmmlkgglmcaaDoorRowAll
import Derived.RangeFuncNested
import Derived.RangeFuncBound
import Derived.RangeFuncCalls
import Derived.RangeFuncLeaves
import Derived.Shelf.Abstract
import Derived.Shelf.RegionOpen
import Derived.WalkKit
import Derived.OwnWalkIn
import Derived.TacticsInMore
import Derived.LoopNIn
import Derived.LoopIn
import Derived.Lib.Hide
import Derived.Test.YtchdmmlkgglmcaaDoorLists
import Derived.Test.YtchdmmlkgglmcaaDoorNum
import Derived.Test.YtchdmmlkgglmcaaDoorDraw5
import Derived.Test.YtchdmmlkgglmcaaDoorRows
import Derived.ProofKit
import Derived.OpenShut
import Derived.ShutString
import Derived.ChangeOld
import Derived.Below
import Derived.SliceStrings
import Derived.Lib.SmallJoins
import Derived.Test.YtchdmmlkgglmcaaDoorCards
import Derived.Test.YtchdmmlkgglmcaaDoorTie
import Derived.LaidMore
import Derived.Stop.Joined
import Derived.SevenTiedAt
import Derived.Test.YtchdmmlkgglmcaaDoorDraw14c
import Derived.Test.YtchdmmlkgglmcaaDoorImpl14b
import Derived.Test.YtchdmmlkgglmcaaDoorLaid
import Derived.Deep.DeepCutAuto
namespace Go.Proofs.YtchdmmlkgglmcaaDoor.Tx
open Go.RowKit

theorem eq_row_self (u s h a n : Int) (w : World) : (Op.equalIn 10000 29 (.agg #[.int .i64 u, .int .i64 s, .int .i64 h, .int .i64 a, .int .i64 n]) (.agg #[.int .i64 u, .int .i64 s, .int .i64 h, .int .i64 a, .int .i64 n])).run Tryd.prog w = .ok true w := by
  simp [go_sem]
theorem eq_word_self (t : ByteArray) (e : Bool) (w : World) : (Op.equalIn 10000 69 (.agg #[.string t, .bool e]) (.agg #[.string t, .bool e])).run Tryd.prog w = .ok true w := by
  simp [go_sem]
set_option maxRecDepth 100000 in
set_option maxHeartbeats 8000000 in
theorem likeSeat_same (s : SeatV) (A B : Option Addr) (n ca cb : Nat) (l : List WordV) (w : World) (hA' : EltsO w w.heap.size A n l) (hB' : EltsO w w.heap.size B n l) (hn : n ≤ 1048576) :
    Calls Tryd.prog 9 #[s.val A n ca, s.val B n cb] w fun e w' => e = .returned (.bool true) ∧ Below w.heap.size w w' := by
  obtain ⟨st, sh, sd, sp, ⟨⟨eu, es, eh, ea⟩, en⟩, ⟨⟨fu, fs, fh, fa⟩, fn⟩⟩ := s
  have HV1 : Hid (SeatV.val ⟨st, sh, sd, sp, ⟨⟨eu, es, eh, ea⟩, en⟩, ⟨⟨fu, fs, fh, fa⟩, fn⟩⟩ A n ca = .agg #[.int .i64 st, .int .i64 sh, .int .i64 sd, .int .i64 sp, .int .i64 eu, .int .i64 es, .int .i64 eh, .int .i64 ea, .int .i64 en, .int .i64 fu, .int .i64 fs, .int .i64 fh, .int .i64 fa, .int .i64 fn, .slice A n ca]) := rfl
  have HV2 : Hid (SeatV.val ⟨st, sh, sd, sp, ⟨⟨eu, es, eh, ea⟩, en⟩, ⟨⟨fu, fs, fh, fa⟩, fn⟩⟩ B n cb = .agg #[.int .i64 st, .int .i64 sh, .int .i64 sd, .int .i64 sp, .int .i64 eu, .int .i64 es, .int .i64 eh, .int .i64 ea, .int .i64 en, .int .i64 fu, .int .i64 fs, .int .i64 fh, .int .i64 fa, .int .i64 fn, .slice B n cb]) := rfl
  rw [HV1.out, HV2.out]
  clear HV1 HV2
  obtain ⟨W0, hW0⟩ : ∃ W, (w.alloc (.cells #[.int .i64 st, .int .i64 sh, .int .i64 sd, .int .i64 sp, .int .i64 eu, .int .i64 es, .int .i64 eh, .int .i64 ea, .int .i64 en, .int .i64 fu, .int .i64 fs, .int .i64 fh, .int .i64 fa, .int .i64 fn, .slice A n ca] 32)).alloc (.cells #[.int .i64 st, .int .i64 sh, .int .i64 sd, .int .i64 sp, .int .i64 eu, .int .i64 es, .int .i64 eh, .int .i64 ea, .int .i64 en, .int .i64 fu, .int .i64 fs, .int .i64 fh, .int .i64 fa, .int .i64 fn, .slice B n cb] 32) = W := ⟨_, rfl⟩
  have K0 : Hid (Below w.heap.size w W0) := by rw [← hW0]; exact ((Below.refl _ w).alloc (Nat.le_refl _) _).alloc (by simp; try omega) _
  have P0 : Hid (W0.heap[w.heap.size]? = some (.cells #[.int .i64 st, .int .i64 sh, .int .i64 sd, .int .i64 sp, .int .i64 eu, .int .i64 es, .int .i64 eh, .int .i64 ea, .int .i64 en, .int .i64 fu, .int .i64 fs, .int .i64 fh, .int .i64 fa, .int .i64 fn, .slice A n ca] 32)) := by rw [← hW0]; exact heap2a w _ _
  have Q0 : Hid (W0.heap[w.heap.size + 1]? = some (.cells #[.int .i64 st, .int .i64 sh, .int .i64 sd, .int .i64 sp, .int .i64 eu, .int .i64 es, .int .i64 eh, .int .i64 ea, .int .i64 en, .int .i64 fu, .int .i64 fs, .int .i64 fh, .int .i64 fa, .int .i64 fn, .slice B n cb] 32)) := by rw [← hW0]; exact heap2b w _ _
  have hA := Lib.hid (hA'.below K0.out)
  have hB := Lib.hid (hB'.below K0.out)
  have HL := Lib.hid hA'.1
  clear hA' hB'
  have sW0 : W0.heap.size = w.heap.size + 2 := by rw [← hW0]; simp
  obtain ⟨⟨a0, a1, a2, a3, a4, a5, a6, a7, a8, a9, a10, a11, a12, a13, a14⟩, _⟩ := blk15 P0.out
  obtain ⟨⟨b0, b1, b2, b3, b4, b5, b6, b7, b8, b9, b10, b11, b12, b13, b14⟩, _⟩ := blk15 Q0.out
  have he := fun w' => eq_row_self eu es eh ea en w'
  have hf := fun w' => eq_row_self fu fs fh fa fn w'
  go_enter Tryd.func9, Tryd.ntmps9
  go_wp2_with fail
  clear a0 a1 a2 a3 a4 a5 a6 a7 a8 a9 a10 a11 a12 a13 a14
  clear b0 b1 b2 b3 b4 b5 b6 b7 b8 b9 b10 b11 b12 b13 b14
  clear hW0 he hf
  go_loopw [5] (fun i wr => ∃ k : Nat, k ≤ n ∧ i = .int .i64 k ∧ Hid (Below W0.heap.size W0 wr)) (fun i _ => n - (intOf i).toNat)
  case atStart => exact ⟨0, Nat.zero_le _, rfl, Below.refl _ _⟩
  case round =>
    obtain ⟨k, hk, rfl, hW⟩ := hrel
    obtain ⟨⟨c0, c1, c2, c3, c4, c5, c6, c7, c8, c9, c10, c11, c12, c13, c14⟩, _⟩ := blk15 ((hW.out.block _ (blk_in P0.out)).trans P0.out)
    by_cases hlt : k < n
    · obtain ⟨b, off, rfl, hb, hc⟩ := hA.out.2 (by omega)
      obtain ⟨b', off', rfl, hb', hc'⟩ := hB.out.2 (by omega)
      obtain ⟨⟨xt, xe⟩, hx⟩ : ∃ x, l[k]? = some x := ⟨_, List.getElem?_eq_getElem (by rw [HL.out]; exact hlt)⟩
      have g1 : At W0 b (off + k * 2) _ := hc k _ hx
      have g2 : At W0 b' (off' + k * 2) _ := hc' k _ hx
      have f1 : ∀ q : Later W0, _ := fun q => word_at (g1.heap (q.bel.block b (by omega)))
      have f2 : ∀ q : Later W0, _ := fun q => word_at (g2.heap (q.bel.block b' (by omega)))
      have f3 : ∀ q : Later W0, _ := fun q => (blk15 ((q.bel.block _ (blk_in P0.out)).trans P0.out)).1
      have f4 : ∀ q : Later W0, _ := fun q => (blk15 ((q.bel.block _ (blk_in Q0.out)).trans Q0.out)).1
      dsimp only at f1 f2
      clear hx hc hc' g1 g2
      have hk0 : (0 : Int) ≤ (k : Int) := by omega
      have hkn : (k : Int) < (n : Int) := by omega
      have hq := fun w' => eq_word_self xt xe w'
      go_wp2
      clear c0 c1 c2 c3 c4 c5 c6 c7 c8 c9 c10 c11 c12 c13 c14
      refine wp_region_later (W := W0) hW.out (by kernel_rfl) (by kernel_rfl) ?_
      repeat (go_big_quiet_step (fail))
      refine wpQuiet_nil ?_
      rintro _ ⟨⟨w', hw'⟩, rfl⟩
      have Hw' := Lib.hid hw'
      clear hw' f1 f2 f3 f4 hq
      go_wp2
      go_roundw
      case rel => exact ⟨k + 1, by omega, by go_num, Hw'.out⟩
      case measure => simp [intOf]; omega
    · obtain rfl : k = n := by omega
      have hlt' : ¬ (k : Int) < (k : Int) := by omega
      go_wp2
      go_ret
      exact ⟨rfl, K0.out.trans (hW.out.mono K0.out.size)⟩

end Go.Proofs.YtchdmmlkgglmcaaDoor.Tx
namespace Go.Proofs.YtchdmmlkgglmcaaDoor.Tx
open Go.RowKit

theorem EltsO.strs {w : World} {B n : Nat} {A : Option Addr} {ss : List ByteArray} (h : EltsO w B A n ss) : Strs w B A n ss := ⟨h.1, fun hn => by
  obtain ⟨b, off, e, hb, hc⟩ := h.2 hn
  refine ⟨b, off, e, hb, fun j hj => ?_⟩
  have hj' : j < ss.length := by rw [h.1]; exact hj
  have h1 := hc j ss[j] (List.getElem?_eq_getElem hj') 0 _ rfl
  rw [List.getElem?_eq_getElem hj', Option.getD_some]
  simpa [Cells.sz] using h1⟩
end Go.Proofs.YtchdmmlkgglmcaaDoor.Tx
namespace Go.Proofs.YtchdmmlkgglmcaaDoor.Tx

theorem take_key {r : RowV} {b : BoxV} (h : takeB r b = true) : b.k = r.k := by
  simp only [takeB, openB, Bool.and_eq_true] at h
  exact KeyV.same_iff.1 h.2.1.2.2.1
theorem take_no {r : RowV} {b : BoxV} (h : takeB r b = true) : b.no = r.no ∧ b.sp = false := by
  simp only [takeB, openB, Bool.and_eq_true] at h
  refine ⟨by simpa using h.2.1.2.2.2, by simpa using h.2.1.2.1⟩
theorem take_row {r : RowV} {b : BoxV} (h : takeB r b = true) : rowOkB r = true := by
  simp only [takeB, Bool.and_eq_true] at h
  exact h.1
theorem take_on {r : RowV} {b : BoxV} (h : takeB r b = true) : rowOkB (takeR r b) = true ∧ (takeR r b).k = r.k ∧ (takeR r b).no = r.no + 1 := by
  rw [(take_true h).1]
  exact ⟨rowOk_on (take_row h) (take_true h).2.2, rfl, rfl⟩
theorem row_zero : rowOkB .zero = true ∧ RowV.zero.isZ = true := by constructor <;> decide
/-- The ways in which a seat hears. -/
theorem hear_ways (s : SeatV) (l : List WordV) (b : BoxV) (h : seatOkB s l.length = true) :
    (hearC s l.length b = 0 ∧ hearS s l.length b = s ∧ hearL s l b = l) ∨
    (hearC s l.length b = 1 ∧ s.st = 1 ∧ takeB s.e b = true ∧ l.length < 60 ∧ hearS s l.length b = { s with e := takeR s.e b } ∧ hearL s l b = l ++ [⟨b.t, true⟩]) ∨
    (hearC s l.length b = 2 ∧ s.st = 1 ∧ takeB s.e b = false ∧ takeB s.f b = true ∧ isEnd b.t l.length = true ∧ hearS s l.length b = { s with st := 2, e := .zero, f := takeR s.f b } ∧ hearL s l b = l) ∨
    (hearC s l.length b = 3 ∧ s.st = 2 ∧ takeB s.f b = true ∧ l.length < 60 ∧ hearS s l.length b = { s with f := takeR s.f b } ∧ hearL s l b = l ++ [⟨b.t, false⟩]) := by
  have hst : s.st = 1 ∨ s.st = 2 := by
    have h' := h
    simp only [seatOkB, Bool.and_eq_true, Bool.or_eq_true, beq_iff_eq] at h'
    exact h'.1
  have z : hearC s l.length b = 0 → hearS s l.length b = s ∧ hearL s l b = l := fun c => ⟨by rw [hearS, if_pos h, c]; rfl, by rw [hearL, if_pos h, c]; rfl⟩
  rcases hst with h1 | h2
  · cases he : takeB s.e b with
    | true =>
      by_cases hr : l.length < 60
      · have c : hearC s l.length b = 1 := by rw [hearC, if_pos h, if_pos h1, if_pos he, if_pos hr]
        exact .inr (.inl ⟨c, h1, rfl, hr, by rw [hearS, if_pos h, if_pos c], by rw [hearL, if_pos h, if_pos c, (take_true he).2.1]⟩)
      · have c : hearC s l.length b = 0 := by rw [hearC, if_pos h, if_pos h1, if_pos he, if_neg hr]
        exact .inl ⟨c, z c⟩
    | false =>
      cases hf : takeB s.f b with
      | true =>
        cases hi : isEnd b.t l.length with
        | true =>
          have c : hearC s l.length b = 2 := by rw [hearC, if_pos h, if_pos h1, he, hf, (take_true hf).2.1, hi]; rfl
          exact .inr (.inr (.inl ⟨c, h1, rfl, rfl, rfl, by rw [hearS, if_pos h, c]; rfl, by rw [hearL, if_pos h, c]; rfl⟩))
        | false =>
          have c : hearC s l.length b = 0 := by rw [hearC, if_pos h, if_pos h1, he, hf, (take_true hf).2.1, hi]; rfl
          exact .inl ⟨c, z c⟩
      | false =>
        have c : hearC s l.length b = 0 := by rw [hearC, if_pos h, if_pos h1, he, hf]; rfl
        exact .inl ⟨c, z c⟩
  · have h1 : s.st ≠ 1 := by omega
    cases hf : takeB s.f b with
    | true =>
      by_cases hr : l.length < 60
      · have c : hearC s l.length b = 3 := by rw [hearC, if_pos h, if_neg h1, hf, decide_eq_true hr]; rfl
        exact .inr (.inr (.inr ⟨c, h2, rfl, hr, by rw [hearS, if_pos h, c]; rfl, by rw [hearL, if_pos h, c, (take_true hf).2.1]; rfl⟩))
      · have c : hearC s l.length b = 0 := by rw [hearC, if_pos h, if_neg h1, hf, decide_eq_false hr]; rfl
        exact .inl ⟨c, z c⟩
    | false =>
      have c : hearC s l.length b = 0 := by rw [hearC, if_pos h, if_neg h1, hf]; rfl
      exact .inl ⟨c, z c⟩
theorem hear_bad {s : SeatV} {n : Nat} (b : BoxV) (h : seatOkB s n = false) : hearC s n b = 0 := by rw [hearC, h]; rfl
/-- What is heard goes by the key of one of its rows. -/
theorem hear_key {s : SeatV} {l : List WordV} {b : BoxV} (h : hearC s l.length b ≠ 0) : b.k = s.f.k ∨ b.k = s.e.k := by
  cases ok : seatOkB s l.length with
  | false => exact absurd (hear_bad b ok) h
  | true =>
    rcases hear_ways s l b ok with ⟨c, _⟩ | ⟨_, _, t, _⟩ | ⟨_, _, _, t, _⟩ | ⟨_, _, t, _⟩
    · exact absurd c h
    · exact .inr (take_key t)
    · exact .inl (take_key t)
    · exact .inl (take_key t)
theorem early_snoc (l : List WordV) (q : WordV) : earlyN (l ++ [q]) = earlyN l + (if q.e then 1 else 0) := by
  rw [earlyN, List.countP_append, earlyN]
  cases h : q.e <;> simp [h]
theorem seatOk_parts (s : SeatV) (n : Nat) : seatOkB s n = true ↔ ((s.st == 1 || s.st == 2) = true ∧ isDrawB s.h = true ∧ isDrawB s.d = true ∧ inB s.p 1 3 = true ∧ rowOkB s.e = true ∧ rowOkB s.f = true ∧ decide (n ≤ 60) = true ∧
    (!s.f.k.same .zero) = true ∧ s.f.k.same (forthK s.f.k.s s.h s.d) = true ∧ ((s.f.k.s == 0) == (s.p == 1)) = true ∧ (if (s.st == 1 && s.p == 3) = true then s.e.k.same (earlyK s.f.k.s s.h) else s.e.isZ) = true) := by
  unfold seatOkB
  rw [Bool.and_eq_true, Bool.and_eq_true, Bool.and_eq_true, Bool.and_eq_true, Bool.and_eq_true, Bool.and_eq_true, Bool.and_eq_true, Bool.and_eq_true, Bool.and_eq_true, Bool.and_eq_true]
/-- It stays right. -/
theorem hear_right (s : SeatV) (l : List WordV) (b : BoxV) (h : seatOkB s l.length = true) : seatOkB (hearS s l.length b) (hearL s l b).length = true := by
  obtain ⟨h0, h1, h2, h3, h4, h5, h6', h7, h8, h9, h10⟩ := (seatOk_parts _ _).1 h
  have h6 := of_decide_eq_true h6'
  refine (seatOk_parts _ _).2 ?_
  rcases hear_ways s l b h with ⟨_, e1, e2⟩ | ⟨_, st, t, r, e1, e2⟩ | ⟨_, st, t0, t, _, e1, e2⟩ | ⟨_, st, t, r, e1, e2⟩
  · rw [e1, e2]; exact (seatOk_parts _ _).1 h
  · rw [e1, e2]
    obtain ⟨o1, o2, o3⟩ := take_on t
    by_cases hc : (s.st == 1 && s.p == 3) = true
    · rw [if_pos hc] at h10
      refine ⟨h0, h1, h2, h3, o1, h5, decide_eq_true (by simp; omega), h7, h8, h9, ?_⟩
      rw [if_pos hc]
      show (takeR s.e b).k.same (earlyK s.f.k.s s.h) = true
      rw [o2]
      exact h10
    · rw [if_neg hc] at h10
      exfalso
      have hz : s.e.k = .zero := by
        simp only [RowV.isZ, Bool.and_eq_true, beq_iff_eq] at h10
        obtain ⟨a1, a2, a3, a4, _⟩ := h10
        generalize s.e.k = k at a1 a2 a3 a4 ⊢
        obtain ⟨u, x, y, z⟩ := k
        dsimp only at a1 a2 a3 a4
        subst a1 a2 a3 a4
        rfl
      have := (take_true t).2.2
      simp only [goesB, Bool.and_eq_true] at this
      rw [hz, KeyV.same_self] at this
      exact absurd this.1 (by simp)
  · rw [e1, e2]
    obtain ⟨o1, o2, o3⟩ := take_on t
    refine ⟨rfl, h1, h2, h3, row_zero.1, o1, h6', by rw [o2]; exact h7, by rw [o2]; exact h8, by rw [o2]; exact h9, ?_⟩
    rw [if_neg (by simp)]
    exact row_zero.2
  · rw [e1, e2]
    obtain ⟨o1, o2, o3⟩ := take_on t
    refine ⟨h0, h1, h2, h3, h4, o1, decide_eq_true (by simp; omega), by rw [o2]; exact h7, by rw [o2]; exact h8, by rw [o2]; exact h9, ?_⟩
    rw [o2]
    exact h10

end Go.Proofs.YtchdmmlkgglmcaaDoor.Tx
namespace Go.Proofs.YtchdmmlkgglmcaaDoor.Tx
open Go.RowKit Go.Shelf

attribute [local go_sem] Oper.semAt_some

/-- A place of the list and the string there. -/
def El (ss : List ByteArray) : Type := { p : Nat × ByteArray // ss[p.1]? = some p.2 }
def pairs (ss : List ByteArray) (k : Nat) : List (Nat × ByteArray) := (List.range k).map fun j => (j, ss[j]?.getD ByteArray.empty)
theorem pairs_succ (ss : List ByteArray) (k : Nat) : pairs ss (k + 1) = pairs ss k ++ [(k, ss[k]?.getD ByteArray.empty)] := by simp [pairs, List.range_succ]
theorem pairs_length (ss : List ByteArray) (k : Nat) : (pairs ss k).length = k := by simp [pairs]
theorem pairs_snd (ss : List ByteArray) (k : Nat) (h : k ≤ ss.length) : (pairs ss k).map (·.2) = ss.take k := by
  induction k with
  | zero => simp [pairs]
  | succ k ih => rw [pairs_succ, List.map_append, ih (by omega), take_snocL ss k (by omega)]; rfl
def vals {ss : List ByteArray} (l : List (El ss)) : List (Nat × ByteArray) := l.map (·.1)
theorem vals_snoc {ss : List ByteArray} (l : List (El ss)) (x : El ss) : vals (l ++ [x]) = vals l ++ [x.1] := by simp [vals]
theorem vals_length {ss : List ByteArray} (l : List (El ss)) : (vals l).length = l.length := by simp [vals]

end Go.Proofs.YtchdmmlkgglmcaaDoor.Tx
namespace Go.Proofs.YtchdmmlkgglmcaaDoor.Tx
open Go.RowKit Go.Shelf

attribute [local go_sem] Oper.semAt_some

def beginsB (ss ts : List ByteArray) : Bool := decide (ss.length ≤ ts.length) && decide (ss = ts.take ss.length)
theorem begins_long {ss ts : List ByteArray} (h : ts.length < ss.length) : beginsB ss ts = false := by
  have : decide (ss.length ≤ ts.length) = false := by simp; omega
  simp [beginsB, this]
theorem begins_short {ss ts : List ByteArray} (h : ss.length ≤ ts.length) : beginsB ss ts = decide (ss = ts.take ss.length) := by simp [beginsB, h]

set_option maxHeartbeats 1000000 in
theorem Begins_spec (A B : Option Addr) (n m ca cb : Nat) (ss ts : List ByteArray) (w : World) (hA : Strs w w.heap.size A n ss) (hB : Strs w w.heap.size B m ts) (hn : n ≤ 1048576) (hm : m ≤ 1048576) (hcm : m ≤ cb) :
    Calls Tryd.prog 16 #[.slice A n ca, .slice B m cb] w fun e w' => e = .returned (.bool (beginsB ss ts)) ∧ ∃ q, w' = w.drewN q := by
  have HA := Lib.hid hA
  have HB := Lib.hid hB
  clear hA hB
  by_cases hle : n ≤ m
  · have HR : Hid (beginsB ss ts = decide (ss = ts.take n)) := by
      show _ = _
      rw [begins_short (by rw [HA.out.1, HB.out.1]; exact hle), HA.out.1]
    have hB1 : Strs w w.heap.size B n (ts.take n) := by
      refine ⟨by simp [HB.out.1]; omega, fun h0 => ?_⟩
      obtain ⟨b, off, e, hb, hc⟩ := HB.out.2 (by omega)
      exact ⟨b, off, e, hb, fun j hj => by rw [hc j (by omega)]; simp [hj]⟩
    have H1 := Lib.hid hB1
    clear hB1
    go_enter Tryd.func16, Tryd.ntmps16
    go_wp2_with (go_at_call 41; refine (l1Same_any _ _ _ _ _ _ ss (ts.take n) _ (by exact HA.out) (by exact H1.out) hn hn).mono ?_; rintro e w' ⟨rfl, q, rfl⟩)
    go_ret
    exact ⟨by rw [HR.out]; rfl, q, rfl⟩
  · have HR : Hid (beginsB ss ts = false) := begins_long (by rw [HA.out.1, HB.out.1]; omega)
    go_enter Tryd.func16, Tryd.ntmps16
    go_wp2
    go_ret
    exact ⟨by rw [HR.out]; rfl, 0, rfl⟩

theorem begins_parts {ss ts : List ByteArray} (h : beginsB ss ts = true) : ss.length ≤ ts.length ∧ decide (ss = ts.take ss.length) = true := by
  unfold beginsB at h
  rw [Bool.and_eq_true] at h
  exact ⟨of_decide_eq_true h.1, h.2⟩
theorem begins_yes {ss ts : List ByteArray} (hle : ss.length ≤ ts.length) (h : ∀ p ∈ pairs ss ss.length, ts[p.1]? = some p.2) : beginsB ss ts = true := by
  rw [begins_short hle, decide_eq_true_iff]
  apply List.ext_getElem
  · simp; omega
  · intro i h1 h2
    have := h (i, ss[i]?.getD ByteArray.empty) (by simp only [pairs, List.mem_map, List.mem_range]; exact ⟨i, h1, rfl⟩)
    simp only [List.getElem?_eq_getElem h1, Option.getD_some] at this
    rw [List.getElem_take]
    rw [List.getElem?_eq_getElem (by omega)] at this
    injection this with this
    exact this.symm
theorem begins_no {ss ts : List ByteArray} (p : Nat × ByteArray) (hs : ss[p.1]? = some p.2) (ht : ts[p.1]? ≠ some p.2) : beginsB ss ts = false := by
  have hd : decide (ss = ts.take ss.length) = false := by
    rw [decide_eq_false_iff_not]
    intro e
    apply ht
    have hlt : p.1 < ss.length := (List.getElem?_eq_some_iff.1 hs).1
    have h2 : (ts.take ss.length)[p.1]? = some p.2 := by rw [← e]; exact hs
    rw [List.getElem?_take, if_pos hlt] at h2
    exact h2
  simp [beginsB, hd]

/-- Each of these lies at its place in ts. -/
def AllIn (ts : List ByteArray) (l : List (Nat × ByteArray)) : Prop := ∀ p ∈ l, ts[p.1]? = some p.2
theorem allIn_snoc {ss ts : List ByteArray} {l : List (El ss)} {x : El ss} (h : AllIn ts (vals l)) (hx : ts[x.1.1]? = some x.1.2) : AllIn ts (vals (l ++ [x])) := fun p hp => by
  rw [vals_snoc] at hp
  rcases List.mem_append.1 hp with hp | hp
  · exact h p hp
  · simp at hp; subst hp; exact hx

end Go.Proofs.YtchdmmlkgglmcaaDoor.Tx
namespace Go.Proofs.YtchdmmlkgglmcaaDoor.Tx

theorem putAll_mem : ∀ (ss : List ByteArray) (r : RowV) (b : BoxV), b ∈ putAllL r ss → ∃ (i : Nat) (t : ByteArray), ss[i]? = some t ∧ b = ⟨r.k, r.no + i, t, false⟩
  | [], _, _, h => by simp [putAllL] at h
  | t :: r', r, b, h => by
    rw [putAllL] at h
    cases hp : putB r t with
    | false => rw [hp] at h; simp at h
    | true =>
      rw [hp] at h
      rcases List.mem_cons.1 (by simpa using h) with rfl | h
      · exact ⟨0, t, rfl, by simp⟩
      · obtain ⟨i, u, hu, rfl⟩ := putAll_mem r' r.on b h
        exact ⟨i + 1, u, by simpa using hu, by simp [RowV.on]; omega⟩
/-- The key of a row that hears all but early words is of another use than the one of early words. -/
theorem forth_early {s1 h1 d1 s2 h2 : Int} (hz : forthK s1 h1 d1 ≠ .zero) : forthK s1 h1 d1 ≠ earlyK s2 h2 ∧ forthK s1 h1 d1 ≠ .zero := by
  refine ⟨fun e => ?_, hz⟩
  rw [forthK, rightK] at e hz
  split at e
  · rw [earlyK, rightK] at e
    split at e
    · have := congrArg KeyV.u e; simp at this
    · have := congrArg KeyV.u e; simp [KeyV.zero] at this
  · rename_i hk; rw [if_neg hk] at hz; exact hz rfl
/-- What stands on the road: early words E by the key ke, then the end and the words W by the key kf. -/
structure RoadB (ke kf : KeyV) (E L : List ByteArray) (b : BoxV) : Prop where
  from' : b.sp = true ∨ (∃ (i : Nat) (t : ByteArray), E[i]? = some t ∧ b.k = ke ∧ b.no = i ∧ b.t = t) ∨ (∃ (i : Nat) (t : ByteArray), L[i]? = some t ∧ b.k = kf ∧ b.no = i ∧ b.t = t)
theorem RoadB.spoil {ke kf : KeyV} {E L : List ByteArray} {b : BoxV} : RoadB ke kf E L b.spoil := ⟨.inl rfl⟩
theorem int_small {n : Nat} (h0 : 0 < n) (h : n < 10) : (intT (n : Int)).toList = [UInt8.ofNat (48 + n)] := by
  have := pick_text (p := (n : Int)) (by omega) (by omega)
  simpa using this
theorem int_zero : (intT ((0 : Nat) : Int)).toList = [48] := by
  rw [ByteArray.toList_eq, intT, if_neg (by omega)]
  rfl
theorem int_big {n : Nat} (h : 10 ≤ n) : 2 ≤ (intT (n : Int)).toList.length := by
  rw [ByteArray.toList_eq, intT, if_neg (by omega)]
  show 2 ≤ (decL ((n : Int).natAbs)).length
  rw [show ((n : Int)).natAbs = n by omega, decL_pos (by omega), digL_pos (by omega), digL_pos (show 0 < n / 10 by omega)]
  simp
theorem end_list (n : Nat) : (endT n).toList = [101, 110, 100] ++ (intT (n : Int)).toList := by
  rw [ByteArray.toList_eq, ByteArray.toList_eq, endT]
  simp
theorem end_only {k n : Nat} (hk : k ≤ 5) (h : isEnd (endT k) n = true) : n = k := by
  rw [isEnd, beq_iff_eq, end_list, end_list] at h
  have h1 := List.append_cancel_left h
  have hone : ∀ m : Nat, m < 10 → (intT (m : Int)).toList = [UInt8.ofNat (48 + m)] := fun m hm => by
    rcases Nat.eq_zero_or_pos m with rfl | h0
    · exact int_zero
    · exact int_small h0 hm
  by_cases hn : n < 10
  · rw [hone k (by omega), hone n hn] at h1
    have e1 : UInt8.ofNat (48 + k) = UInt8.ofNat (48 + n) := by simpa using h1
    have e2 := congrArg UInt8.toNat e1
    rw [UInt8.toNat_ofNat', UInt8.toNat_ofNat', Nat.mod_eq_of_lt (by omega), Nat.mod_eq_of_lt (by omega)] at e2
    omega
  · have h2 := int_big (n := n) (by omega)
    rw [← h1, hone k (by omega)] at h2
    simp at h2
/-- Where a seat stands on its road. -/
def RoadI (ke kf : KeyV) (E W : List ByteArray) (s : SeatV) (l : List WordV) : Prop :=
  seatOkB s l.length = true ∧ s.f.k = kf ∧
    ((s.st = 1 ∧ s.e.k = ke ∧ s.e.no = (l.length : Int) ∧ s.f.no = 0 ∧ l.length ≤ E.length ∧ l.map WordV.t = E.take l.length) ∨
     (s.st = 2 ∧ ∃ j : Nat, j ≤ W.length ∧ s.f.no = 1 + (j : Int) ∧ l.map WordV.t = E ++ W.take j))
theorem RoadI.begins {ke kf : KeyV} {E W : List ByteArray} {s : SeatV} {l : List WordV} (h : RoadI ke kf E W s l) : ∃ k, k ≤ (E ++ W).length ∧ l.map WordV.t = (E ++ W).take k := by
  obtain ⟨_, _, h | ⟨_, j, hj, _, e⟩⟩ := h
  · obtain ⟨_, _, _, _, hle, e⟩ := h
    exact ⟨l.length, by simp; omega, by rw [e, List.take_append_of_le_length hle]⟩
  · exact ⟨E.length + j, by simp; omega, by rw [e, List.take_append, List.take_of_length_le (show E.length ≤ E.length + j by omega)]; simp⟩
theorem RoadI.step {ke kf : KeyV} {E W : List ByteArray} {s : SeatV} {l : List WordV} {b : BoxV} (hk : ke ≠ kf) (hend : ∀ n, n ≤ 60 → isEnd (endT E.length) n = true → n = E.length) (h : RoadI ke kf E W s l) (hb : RoadB ke kf E (endT E.length :: W) b) :
    RoadI ke kf E W (hearS s l.length b) (hearL s l b) := by
  obtain ⟨ok, hf, hp⟩ := h
  have hr := hear_right s l b ok
  have h60 : l.length ≤ 60 := of_decide_eq_true ((seatOk_parts _ _).1 ok).2.2.2.2.2.2.1
  rcases hear_ways s l b ok with ⟨_, e1, e2⟩ | ⟨_, st, t, r, e1, e2⟩ | ⟨_, st, t0, t, hi, e1, e2⟩ | ⟨_, st, t, r, e1, e2⟩
  · rw [e1, e2]; exact ⟨ok, hf, hp⟩
  · refine ⟨hr, ?_⟩
    rw [e1, e2]
    refine ⟨hf, ?_⟩
    rcases hp with ⟨_, hke, hno, hf0, hle, hm⟩ | ⟨h2, _⟩
    · obtain ⟨o1, o2, o3⟩ := take_on t
      have bk : b.k = ke := (take_key t).trans hke
      have bn := (take_no t).1
      rcases hb.from' with hs | ⟨i, u, hu, _, hbn, hbt⟩ | ⟨i, u, hu, hbk, _⟩
      · rw [(take_no t).2] at hs; cases hs
      · have hil : i = l.length := by omega
        subst hil
        refine .inl ⟨st, o2.trans hke, by rw [o3, hno]; simp, hf0, ?_, ?_⟩
        · have := (List.getElem?_eq_some_iff.1 hu).1
          simp; omega
        · have hlt := (List.getElem?_eq_some_iff.1 hu).1
          rw [List.map_append, hm, List.length_append]
          simp only [List.map_cons, List.map_nil, List.length_cons, List.length_nil, Nat.zero_add]
          rw [List.take_add_one, hu, hbt]
          rfl
      · exact absurd (bk.symm.trans hbk) hk
    · omega
  · refine ⟨hr, ?_⟩
    rw [e1, e2]
    obtain ⟨o1, o2, o3⟩ := take_on t
    refine ⟨o2.trans hf, ?_⟩
    rcases hp with ⟨_, hke, hno, hf0, hle, hm⟩ | ⟨h2, _⟩
    · have bk : b.k = kf := (take_key t).trans hf
      have bn := (take_no t).1
      rcases hb.from' with hs | ⟨i, u, hu, hbk, _⟩ | ⟨i, u, hu, _, hbn, hbt⟩
      · rw [(take_no t).2] at hs; cases hs
      · exact absurd (hbk.symm.trans bk) hk
      · have hi0 : i = 0 := by omega
        subst hi0
        have hu' : endT E.length = u := by simpa using hu
        rw [hbt, ← hu'] at hi
        have hn := hend l.length h60 hi
        exact .inr ⟨rfl, 0, Nat.zero_le _, by rw [o3, hf0]; rfl, by rw [hm, hn]; simp⟩
    · omega
  · refine ⟨hr, ?_⟩
    rw [e1, e2]
    obtain ⟨o1, o2, o3⟩ := take_on t
    refine ⟨o2.trans hf, ?_⟩
    rcases hp with ⟨h1, _⟩ | ⟨_, j, hj, hno, hm⟩
    · omega
    · have bk : b.k = kf := (take_key t).trans hf
      have bn := (take_no t).1
      rcases hb.from' with hs | ⟨i, u, hu, hbk, _⟩ | ⟨i, u, hu, _, hbn, hbt⟩
      · rw [(take_no t).2] at hs; cases hs
      · exact absurd (hbk.symm.trans bk) hk
      · have hij : i = j + 1 := by omega
        subst hij
        have hu' : W[j]? = some u := by simpa using hu
        have hlt := (List.getElem?_eq_some_iff.1 hu').1
        refine .inr ⟨st, j + 1, by omega, by rw [o3, hno]; omega, ?_⟩
        rw [List.map_append, hm, List.take_add_one, hu']
        simp [hbt]

theorem road_start {h d p s : Int} (hb : newSeatB h d p s = true) : seatOkB (newSeatV h d p s) 0 = true ∧ (newSeatV h d p s).st = 1 ∧ (newSeatV h d p s).e.no = 0 ∧ (newSeatV h d p s).f.no = 0 ∧ (newSeatV h d p s).e.k ≠ (newSeatV h d p s).f.k ∧
    ∀ t : ByteArray, t.size ≤ 40 → putB (newSeatV h d p s).f t = true := by
  have e0 : newSeatV h d p s = newSeatRaw h d p s := by rw [newSeatV, if_pos hb]
  rw [e0]
  simp only [newSeatB, Bool.and_eq_true] at hb
  have ok := hb.2
  obtain ⟨_, _, _, _, _, hrf, _, hz, _⟩ := (seatOk_parts _ _).1 ok
  have hfz : forthK s h d ≠ .zero := fun e => by
    have h1 : (newSeatRaw h d p s).f.k = .zero := e
    rw [h1, KeyV.same_self] at hz
    cases hz
  have hkey : keyOkB (forthK s h d) = true := by
    cases hk : keyOkB ⟨4, s, h, d⟩ with
    | true => rw [forthK, rightK_yes hk]; exact hk
    | false => exact absurd (by rw [forthK, rightK_no hk]) hfz
  have hen : (newSeatRaw h d p s).e.no = 0 := by
    rw [newSeatRaw]
    dsimp only
    split <;> rfl
  have hek : (newSeatRaw h d p s).e.k ≠ (newSeatRaw h d p s).f.k := by
    show _ ≠ forthK s h d
    rw [newSeatRaw]
    dsimp only
    split
    · exact fun e => (forth_early hfz).1 e.symm
    · exact fun e => hfz e.symm
  refine ⟨ok, rfl, hen, rfl, hek, fun t ht => ?_⟩
  rw [putB, Bool.and_eq_true, Bool.and_eq_true]
  refine ⟨hrf, ?_, ?_⟩
  · show boxOkB ⟨forthK s h d, 0, t, false⟩ = true
    simp [boxOkB, hkey, inB]
    exact ht
  · show goesB ⟨forthK s h d, 0⟩ = true
    rw [goesB, KeyV.same_not hfz]
    rfl
/-- At its start. -/
theorem RoadI.start {s : SeatV} {E W : List ByteArray} (ok : seatOkB s 0 = true) (h1 : s.st = 1) (h2 : s.e.no = 0) (h3 : s.f.no = 0) : RoadI s.e.k s.f.k E W s [] :=
  ⟨ok, rfl, .inl ⟨h1, rfl, h2, h3, Nat.zero_le _, rfl⟩⟩
/-- The boxes on its road. -/
theorem road_boxes {s : SeatV} {E L : List ByteArray} {xs ys : List BoxV} (h2 : s.e.no = 0) (h3 : s.f.no = 0) (hx : ∀ b ∈ xs, b ∈ putAllL s.e E) (hy : ∀ b ∈ ys, b ∈ putAllL s.f L) : ∀ b ∈ xs ++ ys, RoadB s.e.k s.f.k E L b := fun b hb => by
  rcases List.mem_append.1 hb with h | h
  · obtain ⟨i, t, ht, rfl⟩ := putAll_mem _ _ _ (hx b h)
    exact ⟨.inr (.inl ⟨i, t, ht, rfl, by simp [h2], rfl⟩)⟩
  · obtain ⟨i, t, ht, rfl⟩ := putAll_mem _ _ _ (hy b h)
    exact ⟨.inr (.inr ⟨i, t, ht, rfl, by simp [h3], rfl⟩)⟩
theorem begins_take {ss ts : List ByteArray} {k : Nat} (hk : k ≤ ts.length) (h : ss = ts.take k) : beginsB ss ts = true := by
  have hl : ss.length = k := by rw [h, List.length_take]; omega
  rw [begins_short (by omega), hl]
  exact decide_eq_true h
end Go.Proofs.YtchdmmlkgglmcaaDoor.Tx
namespace Go.Proofs.YtchdmmlkgglmcaaDoor.Tx
open Go.RowKit

set_option maxHeartbeats 4000000 in
theorem digits_any (k : Nat) (hk : k ≤ 9223372036854775807) (w : World) : Calls Tryd.prog 12 #[.int .i64 (k : Int)] w fun e w' => e = .returned (.string (decT k)) ∧ Below w.heap.size w w' := by
  have hcv := conv_one
  go_enter Tryd.func12, Tryd.ntmps12
  go_wp2_with fail
  go_loopw [0, 3] (fun i o wr => ∃ (j : Nat) (s : ByteArray), j ≤ 9223372036854775807 ∧ i = .int .i64 (j : Int) ∧ o = .string s ∧ ((s = ⟨#[]⟩ ∧ j = k) ∨ (s.size ≠ 0 ∧ digs j ++ s = decT k)) ∧ Below w.heap.size w wr) (fun i o _ => (intOf i).natAbs + emptyN o)
  case atStart => exact ⟨k, ⟨#[]⟩, by omega, rfl, rfl, .inl ⟨rfl, rfl⟩, Below.refl _ _⟩
  case round =>
    obtain ⟨j, s, hj, rfl, rfl, hd, hB⟩ := hrel
    have HB := Lib.hid hB
    have HD0 := Lib.hid hd
    clear hB hd
    have hs : s.size ≤ 19 := by
      rcases HD0.out with ⟨rfl, _⟩ | ⟨_, h⟩
      · exact Nat.zero_le _
      · have := (decT_size (k := k) (by omega)).2
        rw [← h, ByteArray.size_append] at this
        omega
    have hno : ¬ 9223372036854775807 < (chr1 (48 + (j : Int) % 10)).size + s.size := by rw [chr1_size]; omega
    have hd0 : 0 ≤ (j : Int) % 10 ∧ (j : Int) % 10 ≤ 9 := by omega
    by_cases hs0 : s = ⟨#[]⟩
    · have HN : Hid (digs (j / 10) ++ (chr1 (48 + (j : Int) % 10) ++ s) = decT k) := by
        show _ = _
        rcases HD0.out with ⟨_, rfl⟩ | ⟨h0, _⟩
        · rw [hs0, show (⟨#[]⟩ : ByteArray) = ByteArray.empty from rfl, ByteArray.append_empty]; exact dec_step j
        · exact absurd (by rw [hs0]; rfl) h0
      subst hs0
      go_wp2
      go_roundw
      case rel => exact ⟨j / 10, chr1 (48 + (j : Int) % 10) ++ ⟨#[]⟩, by omega, by simp, rfl, .inr ⟨by rw [ByteArray.size_append, chr1_size]; omega, HN.out⟩, HB.out.alloc HB.out.size _⟩
      case measure => rw [emptyN_chr]; (first | rw [emptyN_nil] | skip); simp [intOf]; omega
    · have hsz : s.size ≠ 0 := by
        rcases HD0.out with ⟨h, _⟩ | ⟨h, _⟩
        · exact absurd h hs0
        · exact h
      obtain ⟨hne1, hne2⟩ := empty_not hsz
      by_cases hj0 : j = 0
      · have HE : Hid (s = decT k) := by
          show _ = _
          rcases HD0.out with ⟨h, _⟩ | ⟨_, h⟩
          · exact absurd h hs0
          · rw [hj0, digs_zero] at h; rw [← h]; exact ByteArray.empty_append.symm
        have hjz : ¬ (0 : Int) < (j : Int) := by omega
        go_wp2
        go_ret
        exact ⟨by rw [← HE.out]; rfl, HB.out⟩
      · have HN : Hid (digs (j / 10) ++ (chr1 (48 + (j : Int) % 10) ++ s) = decT k) := by
          show _ = _
          rcases HD0.out with ⟨h, _⟩ | ⟨_, h⟩
          · exact absurd h hs0
          · have e := digs_pos (k := j) (by omega)
            rw [← h, e, ByteArray.append_assoc]; rfl
        have hjn : (0 : Int) < (j : Int) := by omega
        go_wp2
        go_roundw
        case rel => exact ⟨j / 10, chr1 (48 + (j : Int) % 10) ++ s, by omega, by simp, rfl, .inr ⟨by rw [ByteArray.size_append, chr1_size]; omega, HN.out⟩, HB.out.alloc HB.out.size _⟩
        case measure => rw [emptyN_chr]; (first | rw [emptyN_nil] | skip); simp [intOf]; omega

def TextsIn (w : World) (e : Ending) (w' : World) : Prop := ∃ (ss : List ByteArray) (gb cb : Nat), ss.length ≤ 5 ∧ e = .returned (.slice (some ⟨gb, 0, none⟩) ss.length cb) ∧ MadeS w' w.heap.size ss gb cb ∧ Below w.heap.size w w'
set_option maxHeartbeats 4000000 in
theorem DrawBytesOf_any (w : World) (A : Option Addr) (n cap : Nat) (hn : n ≤ 4096) (hb : BytesAt w w.heap.size A n) :
    Calls Tryd.prog 10 #[.slice A n cap] w (TextsIn w) := by
  go_enter Tryd.func10, Tryd.ntmps10
  go_wp2_with fail
  refine (l1New_any _ A n cap hn hb).mono ?_
  rintro e w1 ⟨rfl, h0, c, b⟩
  have C := Lib.hid c
  have B1 := Lib.hid b
  clear c b
  go_wp2_with fail
  refine (l1DrawList_any _ _ A n cap 0 h0 hn C.out).mono ?_
  rintro e w2 ⟨ss, gb, cb, i2, h2, hss, rfl, m1, c, b⟩
  have M1 : Hid (MadeS w2 w1.heap.size ss gb cb) := ⟨m1.own⟩
  have B2 : Hid (Below w.heap.size w w2) := below_off B1.out b ⟨Nat.le_refl _, B1.out.size⟩
  have s1 := B1.out.size
  clear m1 c b B1 C
  go_wp2
  go_ret
  exact ⟨ss, gb, cb, hss, rfl, M1.out.mono s1, B2.out⟩

end Go.Proofs.YtchdmmlkgglmcaaDoor.Tx
namespace Go.Proofs.YtchdmmlkgglmcaaDoor.fnRoad
open Go.ChangeShapes Go.WideShapes Go.ChangeAt Go.RowKit
open Go.ChangeMaps (open_string shut_string)
set_option linter.unusedVariables false

theorem own_some {w : World} {B sz n : Nat} {e : TypeId} {v : Value} {xs : List Value} (h : w.ownsRow B e sz v n xs) (hne : v ≠ .slice none 0 0) : ∃ g c, v = .slice (some ⟨g, 0, none⟩) n c ∧ w.ownsRow B e sz (.slice (some ⟨g, 0, none⟩) n c) n xs := by
  rcases h.2 with ⟨h1, _⟩ | ⟨g, cap, cur, hv, _⟩
  · exact absurd h1 hne
  · exact ⟨g, cap, hv, hv ▸ h⟩
theorem own_empty {w : World} {B g sz : Nat} {t : TypeId} (hb : w.heap[g]? = some (.cells #[] t (0, 0))) (hle : B ≤ g) : w.ownsRow B t sz (.slice (some ⟨g, 0, none⟩) 0 0) 0 [] :=
  ⟨by simp, .inr ⟨g, 0, #[], rfl, hle, hb, Nat.le_refl _, Nat.zero_le _, by simp, by simp⟩⟩
def W3 : List ByteArray := [⟨#[119, 49]⟩, ⟨#[119, 50]⟩, ⟨#[119, 51]⟩]
theorem own_words {w : World} {B g : Nat} (hb : w.heap[g]? = some (.cells #[.string ⟨#[119, 49]⟩, .string ⟨#[119, 50]⟩, .string ⟨#[119, 51]⟩] 9 (0, 0))) (hle : B ≤ g) : Tx.MadeS w B W3 g 3 :=
  ⟨⟨rfl, .inr ⟨g, 3, _, rfl, hle, hb, Nat.le_refl _, by unfold maxLen; omega, rfl, rfl⟩⟩⟩
theorem own_app {w : World} {B g c : Nat} {x : ByteArray} {ss : List ByteArray} {k : Nat} (hk : k = 1 + ss.length) (h : w.ownsRow B 9 1 (.slice (some ⟨g, 0, none⟩) k c) k ([.string x] ++ ss.map Value.string)) : Tx.MadeS w B (x :: ss) g c := by
  subst hk
  exact Tx.own_cons h
theorem strs_all {w : World} {B g c k : Nat} {xs ys : List ByteArray} (hk : k = (xs ++ ys).length) (h : w.ownsRow B 9 1 (.slice (some ⟨g, 0, none⟩) k c) k (xs.map Value.string ++ ys.map Value.string)) : Tx.MadeS w B (xs ++ ys) g c := by
  subst hk
  refine ⟨?_⟩
  rw [List.map_append]
  exact h
theorem boxes_all {w : World} {B g c k : Nat} {xs ys : List Tx.BoxV} (hk : k = (xs ++ ys).length) (h : w.ownsRow B 43 7 (.slice (some ⟨g, 0, none⟩) k c) k (xs.flatMap Tx.BoxV.cells ++ ys.flatMap Tx.BoxV.cells)) : Tx.MadeB w B (xs ++ ys) g c := by
  subst hk
  refine ⟨?_⟩
  rw [List.flatMap_append]
  exact h

set_option maxRecDepth 100000 in
set_option maxHeartbeats 128000000 in
theorem walk (w : World) (A : Option Addr) (n cap : Nat) (hb : Tx.BytesAt w w.heap.size A n) (hl : n ≤ maxLen) (ht : Tx.Tab w) :
    Calls Tryd.prog 3 #[.slice A n cap] w fun e w' => e = .returned (.bool true) ∧ Below w.heap.size w w' := by
  unfold maxLen at hl
  have BT := Lib.hid hb
  have K := Lib.hid (Below.refl w.heap.size w)
  have HTB := Lib.hid ht
  clear hb ht
  by_cases hbig : 4096 < n
  · have hd : decide (4096 < n) = true := by simpa using hbig
    go_enter Tryd.func3, Tryd.ntmps3
    go_wp2_with fail
    refine (Tx.big_any _ _ _ _).mono ?_
    rintro e w' ⟨rfl, rfl⟩
    go_wp2
    go_ret
    exact ⟨rfl, Below.refl _ _⟩
  have hd : decide (4096 < n) = false := by simpa using hbig
  have hn : n ≤ 4096 := by omega
  clear hbig
  go_enter Tryd.func3, Tryd.ntmps3
  go_wp2_with fail
  refine (Tx.big_any _ _ _ _).mono ?_
  rintro e w' ⟨rfl, rfl⟩
  clear hd
  go_wp2_with fail
  refine (Tx.DrawNewSeat_any _ A n cap hn (BT.out.up K.out.size)).mono ?_
  rintro e w1 ⟨hh, d, p, sc, hp, rfl, b⟩
  replace BT := Lib.hid (BT.out.below (b.mono K.out.size))
  replace K := Lib.hid (K.out.trans (b.mono K.out.size))
  have sw1 := b.size
  clear b
  obtain ⟨⟨vst, vsh, vsd, vsp, ⟨⟨veu, ves, veh, vea⟩, ven⟩, ⟨⟨vfu, vfs, vfh, vfa⟩, vfn⟩⟩, hv⟩ : ∃ o, Tx.newSeatV hh d p sc = o := ⟨_, rfl⟩
  obtain ⟨nb, hnb⟩ : ∃ o, Tx.newSeatB hh d p sc = o := ⟨_, rfl⟩
  have HN : Hid (nb = true → Tx.seatOkB ⟨vst, vsh, vsd, vsp, ⟨⟨veu, ves, veh, vea⟩, ven⟩, ⟨⟨vfu, vfs, vfh, vfa⟩, vfn⟩⟩ 0 = true ∧ vst = 1 ∧ ven = 0 ∧ vfn = 0 ∧ (⟨veu, ves, veh, vea⟩ : Tx.KeyV) ≠ ⟨vfu, vfs, vfh, vfa⟩ ∧ ∀ t : ByteArray, t.size ≤ 40 → Tx.putB ⟨⟨vfu, vfs, vfh, vfa⟩, vfn⟩ t = true) := fun e => by
    have h1 := Tx.road_start (hnb.trans e)
    rw [hv] at h1
    exact h1
  have hnn : (nb != nb) = false := by simp
  have E0 : ∀ (w' : World) (A : Option Addr), Tx.EltsO w' w'.heap.size A 0 ([] : List Tx.WordV) := fun w' A => ⟨rfl, fun h => absurd h (by omega)⟩
  have hI : Calls Tryd.prog 7 #[.int .i64 hh, .int .i64 d, .int .i64 p, .int .i64 sc] w1 fun e w' => ∃ (A1 : Option Addr) (a1 : Nat), e = .returned (.tuple #[.agg #[.int .i64 vst, .int .i64 vsh, .int .i64 vsd, .int .i64 vsp, .int .i64 veu, .int .i64 ves, .int .i64 veh, .int .i64 vea, .int .i64 ven, .int .i64 vfu, .int .i64 vfs, .int .i64 vfh, .int .i64 vfa, .int .i64 vfn, .slice A1 0 a1], .bool nb]) ∧ Tx.OutE w' w1.heap.size 69 A1 0 a1 ([] : List Tx.WordV) ∧ Below w1.heap.size w1 w' := by
    have h1 := Tx.NewSeat_impl hh d p sc w1
    rw [hv, hnb] at h1
    exact h1.mono fun e w' ⟨A1, a1, he, ho, hb⟩ => ⟨A1, a1, he, ho.out, hb⟩
  have hS : Hid (∀ w' : World, Calls Tryd.prog 8 #[.int .i64 hh, .int .i64 d, .int .i64 p, .int .i64 sc] w' fun e w'' => e = .returned (.tuple #[.agg #[.int .i64 vst, .int .i64 vsh, .int .i64 vsd, .int .i64 vsp, .int .i64 veu, .int .i64 ves, .int .i64 veh, .int .i64 vea, .int .i64 ven, .int .i64 vfu, .int .i64 vfs, .int .i64 vfh, .int .i64 vfa, .int .i64 vfn, .slice none 0 0], .bool nb]) ∧ Below w'.heap.size w' w'') := fun w' => by
    have h1 := Tx.NewSeat_spec hh d p sc w'
    rw [hv, hnb] at h1
    exact h1
  clear hv hnb
  go_wp2_with fail
  refine (hI).mono ?_
  rintro e w2 ⟨A1, a1, rfl, ho, b⟩
  replace BT := Lib.hid (BT.out.below (b.mono K.out.size))
  replace K := Lib.hid (K.out.trans (b.mono K.out.size))
  have sw2 := b.size
  have LG0 := Lib.hid ho
  have hlLG0 := ho
  clear ho
  clear hI
  clear b
  have hlLG : ∀ k, Tx.blkA A1 = some k → k < w2.heap.size := fun k e => (hlLG0.lt e).2
  clear hlLG0
  have LG := LG0
  clear LG0
  obtain ⟨V3, hV3⟩ : ∃ W, w2.alloc (.cells #[.int .i64 0, .int .i64 0, .int .i64 0, .int .i64 0, .int .i64 0, .int .i64 0, .int .i64 0, .int .i64 0, .int .i64 0, .int .i64 0, .int .i64 0, .int .i64 0, .int .i64 0, .int .i64 0, .slice none 0 0] 32) = W := ⟨_, rfl⟩
  replace BT := Lib.hid (BT.out.below ((Below.refl _ _).alloc K.out.size (.cells #[.int .i64 0, .int .i64 0, .int .i64 0, .int .i64 0, .int .i64 0, .int .i64 0, .int .i64 0, .int .i64 0, .int .i64 0, .int .i64 0, .int .i64 0, .int .i64 0, .int .i64 0, .int .i64 0, .slice none 0 0] 32)))
  replace K := Lib.hid (K.out.alloc K.out.size (.cells #[.int .i64 0, .int .i64 0, .int .i64 0, .int .i64 0, .int .i64 0, .int .i64 0, .int .i64 0, .int .i64 0, .int .i64 0, .int .i64 0, .int .i64 0, .int .i64 0, .int .i64 0, .int .i64 0, .slice none 0 0] 32))
  replace LG := Lib.hid (LG.out.on ((Below.refl _ _).alloc (Nat.le_refl _) (.cells #[.int .i64 0, .int .i64 0, .int .i64 0, .int .i64 0, .int .i64 0, .int .i64 0, .int .i64 0, .int .i64 0, .int .i64 0, .int .i64 0, .int .i64 0, .int .i64 0, .int .i64 0, .int .i64 0, .slice none 0 0] 32)))
  have KS := Lib.hid (Tx.heap1 w2 (.cells #[.int .i64 0, .int .i64 0, .int .i64 0, .int .i64 0, .int .i64 0, .int .i64 0, .int .i64 0, .int .i64 0, .int .i64 0, .int .i64 0, .int .i64 0, .int .i64 0, .int .i64 0, .int .i64 0, .slice none 0 0] 32))
  rw [hV3] at BT K LG KS
  have sV3 : w2.heap.size < V3.heap.size := by rw [← hV3]; simp
  have KSo := KS
  have bs : Below w2.heap.size V3 (V3.setRow w2.heap.size #[.int .i64 vst, .int .i64 vsh, .int .i64 vsd, .int .i64 vsp, .int .i64 veu, .int .i64 ves, .int .i64 veh, .int .i64 vea, .int .i64 ven, .int .i64 vfu, .int .i64 vfs, .int .i64 vfh, .int .i64 vfa, .int .i64 vfn, .slice A1 0 a1]) := below_setRow (Below.refl _ _) (Nat.le_refl _) _
  have KS2 : Hid ((V3.setRow w2.heap.size #[.int .i64 vst, .int .i64 vsh, .int .i64 vsd, .int .i64 vsp, .int .i64 veu, .int .i64 ves, .int .i64 veh, .int .i64 vea, .int .i64 ven, .int .i64 vfu, .int .i64 vfs, .int .i64 vfh, .int .i64 vfa, .int .i64 vfn, .slice A1 0 a1]).heap[w2.heap.size]? = some (.cells #[.int .i64 vst, .int .i64 vsh, .int .i64 vsd, .int .i64 vsp, .int .i64 veu, .int .i64 ves, .int .i64 veh, .int .i64 vea, .int .i64 ven, .int .i64 vfu, .int .i64 vfs, .int .i64 vfh, .int .i64 vfa, .int .i64 vfn, .slice A1 0 a1] 32)) := setRow_heap _ _ _ _ _ _ KS.out
  have BT2 := Lib.hid (BT.out.below (bs.mono (by omega)))
  have K2 := Lib.hid (K.out.trans (bs.mono (by omega)))
  have LG2 := Lib.hid (LG.out.heap (w' := (V3.setRow w2.heap.size #[.int .i64 vst, .int .i64 vsh, .int .i64 vsd, .int .i64 vsp, .int .i64 veu, .int .i64 ves, .int .i64 veh, .int .i64 vea, .int .i64 ven, .int .i64 vfu, .int .i64 vfs, .int .i64 vfh, .int .i64 vfa, .int .i64 vfn, .slice A1 0 a1])) (fun k e => setRow_other _ _ _ _ (by have := hlLG k e; omega)))
  have sR := bs.size
  go_wp2_with (first | (refine wpList_store_row rfl 32 _ _ rfl (w2.heap.size) #[.int .i64 vst, .int .i64 vsh, .int .i64 vsd, .int .i64 vsp, .int .i64 veu, .int .i64 ves, .int .i64 veh, .int .i64 vea, .int .i64 ven, .int .i64 vfu, .int .i64 vfs, .int .i64 vfh, .int .i64 vfa, .int .i64 vfn, .slice A1 0 a1] rfl rfl 32 _ KSo.out (by kernel_rfl) rfl (by simp [Value.oneCell']) ?_))
  clear hV3 
  generalize (V3.setRow w2.heap.size #[.int .i64 vst, .int .i64 vsh, .int .i64 vsd, .int .i64 vsp, .int .i64 veu, .int .i64 ves, .int .i64 veh, .int .i64 vea, .int .i64 ven, .int .i64 vfu, .int .i64 vfs, .int .i64 vfh, .int .i64 vfa, .int .i64 vfn, .slice A1 0 a1]) = S3 at KS2 BT2 K2 LG2 sR ⊢
  clear bs KSo KS BT K LG
  have KS := KS2
  have BT := BT2
  have K := K2
  have LG := LG2
  clear KS2 BT2 K2 LG2
  have sSS3 : V3.heap.size ≤ S3.heap.size := sR
  clear sR
  refine (hS.out _).mono ?_
  rintro e w4 ⟨rfl, b⟩
  replace BT := Lib.hid (BT.out.below (b.mono K.out.size))
  replace K := Lib.hid (K.out.trans (b.mono K.out.size))
  replace LG := Lib.hid (LG.out.on b)
  replace KS := Lib.hid (Tx.blk_on b KS.out)
  have sw4 := b.size
  clear hS
  clear b
  obtain ⟨V5, hV5⟩ : ∃ W, w4.alloc (.cells #[.int .i64 0, .int .i64 0, .int .i64 0, .int .i64 0, .int .i64 0, .int .i64 0, .int .i64 0, .int .i64 0, .int .i64 0, .int .i64 0, .int .i64 0, .int .i64 0, .int .i64 0, .int .i64 0, .slice none 0 0] 32) = W := ⟨_, rfl⟩
  replace BT := Lib.hid (BT.out.below ((Below.refl _ _).alloc K.out.size (.cells #[.int .i64 0, .int .i64 0, .int .i64 0, .int .i64 0, .int .i64 0, .int .i64 0, .int .i64 0, .int .i64 0, .int .i64 0, .int .i64 0, .int .i64 0, .int .i64 0, .int .i64 0, .int .i64 0, .slice none 0 0] 32)))
  replace K := Lib.hid (K.out.alloc K.out.size (.cells #[.int .i64 0, .int .i64 0, .int .i64 0, .int .i64 0, .int .i64 0, .int .i64 0, .int .i64 0, .int .i64 0, .int .i64 0, .int .i64 0, .int .i64 0, .int .i64 0, .int .i64 0, .int .i64 0, .slice none 0 0] 32))
  replace LG := Lib.hid (LG.out.on ((Below.refl _ _).alloc (Nat.le_refl _) (.cells #[.int .i64 0, .int .i64 0, .int .i64 0, .int .i64 0, .int .i64 0, .int .i64 0, .int .i64 0, .int .i64 0, .int .i64 0, .int .i64 0, .int .i64 0, .int .i64 0, .int .i64 0, .int .i64 0, .slice none 0 0] 32)))
  replace KS := Lib.hid (Tx.alloc_blk (o := .cells #[.int .i64 0, .int .i64 0, .int .i64 0, .int .i64 0, .int .i64 0, .int .i64 0, .int .i64 0, .int .i64 0, .int .i64 0, .int .i64 0, .int .i64 0, .int .i64 0, .int .i64 0, .int .i64 0, .slice none 0 0] 32) KS.out)
  have KM := Lib.hid (Tx.heap1 w4 (.cells #[.int .i64 0, .int .i64 0, .int .i64 0, .int .i64 0, .int .i64 0, .int .i64 0, .int .i64 0, .int .i64 0, .int .i64 0, .int .i64 0, .int .i64 0, .int .i64 0, .int .i64 0, .int .i64 0, .slice none 0 0] 32))
  rw [hV5] at BT K LG KS KM
  have sV5 : w4.heap.size < V5.heap.size := by rw [← hV5]; simp
  have KMo := KM
  have bs : Below w4.heap.size V5 (V5.setRow w4.heap.size #[.int .i64 vst, .int .i64 vsh, .int .i64 vsd, .int .i64 vsp, .int .i64 veu, .int .i64 ves, .int .i64 veh, .int .i64 vea, .int .i64 ven, .int .i64 vfu, .int .i64 vfs, .int .i64 vfh, .int .i64 vfa, .int .i64 vfn, .slice none 0 0]) := below_setRow (Below.refl _ _) (Nat.le_refl _) _
  have KM2 : Hid ((V5.setRow w4.heap.size #[.int .i64 vst, .int .i64 vsh, .int .i64 vsd, .int .i64 vsp, .int .i64 veu, .int .i64 ves, .int .i64 veh, .int .i64 vea, .int .i64 ven, .int .i64 vfu, .int .i64 vfs, .int .i64 vfh, .int .i64 vfa, .int .i64 vfn, .slice none 0 0]).heap[w4.heap.size]? = some (.cells #[.int .i64 vst, .int .i64 vsh, .int .i64 vsd, .int .i64 vsp, .int .i64 veu, .int .i64 ves, .int .i64 veh, .int .i64 vea, .int .i64 ven, .int .i64 vfu, .int .i64 vfs, .int .i64 vfh, .int .i64 vfa, .int .i64 vfn, .slice none 0 0] 32)) := setRow_heap _ _ _ _ _ _ KM.out
  have BT2 := Lib.hid (BT.out.below (bs.mono (by omega)))
  have K2 := Lib.hid (K.out.trans (bs.mono (by omega)))
  have LG2 := Lib.hid (LG.out.heap (w' := (V5.setRow w4.heap.size #[.int .i64 vst, .int .i64 vsh, .int .i64 vsd, .int .i64 vsp, .int .i64 veu, .int .i64 ves, .int .i64 veh, .int .i64 vea, .int .i64 ven, .int .i64 vfu, .int .i64 vfs, .int .i64 vfh, .int .i64 vfa, .int .i64 vfn, .slice none 0 0])) (fun k e => setRow_other _ _ _ _ (by have := hlLG k e; omega)))
  have KS2 := Lib.hid (show (V5.setRow w4.heap.size #[.int .i64 vst, .int .i64 vsh, .int .i64 vsd, .int .i64 vsp, .int .i64 veu, .int .i64 ves, .int .i64 veh, .int .i64 vea, .int .i64 ven, .int .i64 vfu, .int .i64 vfs, .int .i64 vfh, .int .i64 vfa, .int .i64 vfn, .slice none 0 0]).heap[_]? = _ from (setRow_other _ _ _ _ (by omega)).trans KS.out)
  have sR := bs.size
  go_upto_region 6 with (first | (refine wpList_store_row rfl 32 _ _ rfl (w4.heap.size) #[.int .i64 vst, .int .i64 vsh, .int .i64 vsd, .int .i64 vsp, .int .i64 veu, .int .i64 ves, .int .i64 veh, .int .i64 vea, .int .i64 ven, .int .i64 vfu, .int .i64 vfs, .int .i64 vfh, .int .i64 vfa, .int .i64 vfn, .slice none 0 0] rfl rfl 32 _ KMo.out (by kernel_rfl) rfl (by simp [Value.oneCell']) ?_))
  clear hV5 
  generalize (V5.setRow w4.heap.size #[.int .i64 vst, .int .i64 vsh, .int .i64 vsd, .int .i64 vsp, .int .i64 veu, .int .i64 ves, .int .i64 veh, .int .i64 vea, .int .i64 ven, .int .i64 vfu, .int .i64 vfs, .int .i64 vfh, .int .i64 vfa, .int .i64 vfn, .slice none 0 0]) = S5 at KM2 BT2 K2 LG2 KS2 sR ⊢
  clear bs KMo KM BT K LG KS
  have KM := KM2
  have BT := BT2
  have K := K2
  have LG := LG2
  have KS := KS2
  clear KM2 BT2 K2 LG2 KS2
  have sSS5 : V5.heap.size ≤ S5.heap.size := sR
  clear sR
  go_cut [55] (fun cc wx => cc = .bool false ∧ Hid (Below S5.heap.size S5 wx))
  case first =>
    as_aux_lemma =>
      go_wp2_with (first | (refine Tx.wpList_load_wanted rfl 32 _ rfl (w2.heap.size) rfl 32 _ (0, 0) _ KS.out Tryd.underlying32 rfl (by kernel_rfl) ?_) | (refine Tx.wpList_load_wanted rfl 32 _ rfl (w4.heap.size) rfl 32 _ (0, 0) _ KM.out Tryd.underlying32 rfl (by kernel_rfl) ?_))
      refine (Tx.likeSeat_same ⟨vst, vsh, vsd, vsp, ⟨⟨veu, ves, veh, vea⟩, ven⟩, ⟨⟨vfu, vfs, vfh, vfa⟩, vfn⟩⟩ A1 none 0 a1 0 [] _ (E0 _ _) (E0 _ _) (by omega)).mono ?_
      rintro e w6 ⟨rfl, b⟩
      have b' := Lib.hid b
      clear b
      go_wp2
      go_meet
      exact ⟨rfl, b'⟩
  case rest =>
    obtain ⟨rfl, hb⟩ := hcut
    have b := hb.out
    clear hb hnn
    replace BT := Lib.hid (BT.out.below (b.mono K.out.size))
    replace K := Lib.hid (K.out.trans (b.mono K.out.size))
    replace LG := Lib.hid (LG.out.on b)
    replace KS := Lib.hid (Tx.blk_on b KS.out)
    replace KM := Lib.hid (Tx.blk_on b KM.out)
    have swc := b.size
    clear b
    clear KM
    cases nb with
    | false =>
      go_wp2
      go_ret
      exact ⟨rfl, K.out⟩
    | true =>
      obtain ⟨hok, hst, hen, hfn, hkk, hput⟩ := HN.out rfl
      clear HN
      have hRI := fun (E : List ByteArray) => Lib.hid (Tx.RoadI.start (s := ⟨vst, vsh, vsd, vsp, ⟨⟨veu, ves, veh, vea⟩, ven⟩, ⟨⟨vfu, vfs, vfh, vfa⟩, vfn⟩⟩) (E := E) (W := W3) hok hst hen hfn)
      have HEN := Lib.hid hen
      have HFN := Lib.hid hfn
      clear hok hst hen hfn
      obtain ⟨w7, hw7⟩ : ∃ x, wc = x := ⟨_, rfl⟩
      rw [hw7] at BT K LG KS swc ⊢
      clear hw7
      go_wp2_with fail
      refine (Tx.DrawBytesOf_any _ A n cap hn (BT.out.up K.out.size)).mono ?_
      rintro e w8 ⟨ss, gs, cs, hss, rfl, m1, b⟩
      replace BT := Lib.hid (BT.out.below (b.mono K.out.size))
      replace K := Lib.hid (K.out.trans (b.mono K.out.size))
      replace LG := Lib.hid (LG.out.on b)
      replace KS := Lib.hid (Tx.blk_on b KS.out)
      have sw8 := b.size
      have M0 := Lib.hid m1
      clear m1
      clear b
      go_upto_if 61 with fail
      go_cut [11] (fun cc wx => ∃ (E : List ByteArray) (ge ce : Nat), cc = .slice (some ⟨ge, 0, none⟩) E.length ce ∧ E.length ≤ 5 ∧ Hid (Tx.MadeS wx w7.heap.size E ge ce) ∧ Hid (Below w8.heap.size w8 wx))
      case first =>
        as_aux_lemma =>
          by_cases hp3 : p = 3
          · have hpb : (p != 3) = false := by rw [hp3]; rfl
            go_wp2
            go_meet
            exact ⟨ss, gs, cs, rfl, hss, M0, Below.refl _ _⟩
          · have hpb : (p != 3) = true := by simpa using hp3
            go_wp2
            go_meet
            exact ⟨[], w8.heap.size, 0, rfl, by simp, ⟨own_empty (Tx.heap1 w8 _) (by omega)⟩, (Below.refl _ _).alloc (Nat.le_refl _) _⟩
      case rest =>
        obtain ⟨E, ge, ce, rfl, hE5, ME0, hb⟩ := hcut
        clear M0 hss
        have b := hb.out
        clear hb
        replace BT := Lib.hid (BT.out.below (b.mono K.out.size))
        replace K := Lib.hid (K.out.trans (b.mono K.out.size))
        replace LG := Lib.hid (LG.out.on b)
        replace KS := Lib.hid (Tx.blk_on b KS.out)
        have swd := b.size
        clear b
        obtain ⟨w9, hw9⟩ : ∃ x, wc = x := ⟨_, rfl⟩
        rw [hw9] at ME0 BT K LG KS swd ⊢
        clear hw9
        have ME := ME0
        clear ME0
        obtain ⟨V10, hV10⟩ : ∃ W, w9.alloc (.cells #[.string ⟨#[119, 49]⟩, .string ⟨#[119, 50]⟩, .string ⟨#[119, 51]⟩] 9) = W := ⟨_, rfl⟩
        replace BT := Lib.hid (BT.out.below ((Below.refl _ _).alloc K.out.size (.cells #[.string ⟨#[119, 49]⟩, .string ⟨#[119, 50]⟩, .string ⟨#[119, 51]⟩] 9)))
        replace K := Lib.hid (K.out.alloc K.out.size (.cells #[.string ⟨#[119, 49]⟩, .string ⟨#[119, 50]⟩, .string ⟨#[119, 51]⟩] 9))
        replace LG := Lib.hid (LG.out.on ((Below.refl _ _).alloc (Nat.le_refl _) (.cells #[.string ⟨#[119, 49]⟩, .string ⟨#[119, 50]⟩, .string ⟨#[119, 51]⟩] 9)))
        replace KS := Lib.hid (Tx.alloc_blk (o := .cells #[.string ⟨#[119, 49]⟩, .string ⟨#[119, 50]⟩, .string ⟨#[119, 51]⟩] 9) KS.out)
        replace ME := Lib.hid (ME.out.alloc (.cells #[.string ⟨#[119, 49]⟩, .string ⟨#[119, 50]⟩, .string ⟨#[119, 51]⟩] 9))
        have MW := Lib.hid (Tx.heap1 w9 (.cells #[.string ⟨#[119, 49]⟩, .string ⟨#[119, 50]⟩, .string ⟨#[119, 51]⟩] 9))
        rw [hV10] at BT K LG KS ME MW
        have sV10 : w9.heap.size < V10.heap.size := by rw [← hV10]; simp
        have MW2 : Hid (Tx.MadeS V10 w9.heap.size W3 w9.heap.size 3) := own_words MW.out (Nat.le_refl _)
        clear MW
        obtain ⟨⟨⟨qu, qs, qh, qa⟩, qn⟩, hq⟩ : ∃ x, (if Tx.rowOkB ⟨⟨veu, ves, veh, vea⟩, ven⟩ then Tx.putAllR ⟨⟨veu, ves, veh, vea⟩, ven⟩ E else .zero) = x := ⟨_, rfl⟩
        obtain ⟨xs, hxs⟩ : ∃ x, (if Tx.rowOkB ⟨⟨veu, ves, veh, vea⟩, ven⟩ then Tx.putAllL ⟨⟨veu, ves, veh, vea⟩, ven⟩ E else []) = x := ⟨_, rfl⟩
        have hlxs : xs.length ≤ 5 := by
          rw [← hxs]
          split
          · exact Nat.le_trans (Tx.putAllL_length _ _) (by first | (simp [W3]; omega) | simp [W3] | omega)
          · exact Nat.zero_le _
        have hmxs : ∀ b ∈ xs, b ∈ Tx.putAllL ⟨⟨veu, ves, veh, vea⟩, ven⟩ E := fun b hb => by
          rw [← hxs] at hb
          split at hb
          · exact hb
          · cases hb
        have hPA := Tx.PutAll_spec ⟨⟨veu, ves, veh, vea⟩, ven⟩ _ _ ce E V10 (Tx.madeS_strs ME.out) (by omega)
        unfold Tx.PutAllOut at hPA
        rw [hq, hxs] at hPA
        clear hq hxs
        obtain ⟨⟨k0, k1, k2, k3, k4, k5, k6, k7, k8, k9, k10, k11, k12, k13, k14⟩, _⟩ := Tx.blk15 KS.out
        go_wp2_with fail
        clear k0 k1 k2 k3 k4 k5 k6 k7 k8 k9 k10 k11 k12 k13 k14 hV10
        refine (hPA).mono ?_
        rintro e w11 ⟨gb, cb, rfl, m1, b⟩
        replace BT := Lib.hid (BT.out.below (b.mono K.out.size))
        replace K := Lib.hid (K.out.trans (b.mono K.out.size))
        replace LG := Lib.hid (LG.out.on b)
        replace KS := Lib.hid (Tx.blk_on b KS.out)
        replace ME := Lib.hid (ME.out.below b)
        replace MW2 := Lib.hid (MW2.out.below b)
        have sw11 := b.size
        have M1 := Lib.hid m1
        have hgb1 := m1.base
        clear m1 hPA
        clear b
        have HV : Hid (Tx.RowV.val ⟨⟨qu, qs, qh, qa⟩, qn⟩ = .agg #[.int .i64 qu, .int .i64 qs, .int .i64 qh, .int .i64 qa, .int .i64 qn]) := rfl
        rw [HV.out]
        clear HV
        have hbME0 := ME.out.base
        have hbMW20 := MW2.out.base
        have hbM10 := M1.out.base
        obtain ⟨V12, hV12⟩ : ∃ W, w11.alloc (.cells #[.int .i64 0, .int .i64 0, .int .i64 0, .int .i64 0, .int .i64 0] 29) = W := ⟨_, rfl⟩
        replace BT := Lib.hid (BT.out.below ((Below.refl _ _).alloc K.out.size (.cells #[.int .i64 0, .int .i64 0, .int .i64 0, .int .i64 0, .int .i64 0] 29)))
        replace K := Lib.hid (K.out.alloc K.out.size (.cells #[.int .i64 0, .int .i64 0, .int .i64 0, .int .i64 0, .int .i64 0] 29))
        replace LG := Lib.hid (LG.out.on ((Below.refl _ _).alloc (Nat.le_refl _) (.cells #[.int .i64 0, .int .i64 0, .int .i64 0, .int .i64 0, .int .i64 0] 29)))
        replace KS := Lib.hid (Tx.alloc_blk (o := .cells #[.int .i64 0, .int .i64 0, .int .i64 0, .int .i64 0, .int .i64 0] 29) KS.out)
        replace ME := Lib.hid (ME.out.alloc (.cells #[.int .i64 0, .int .i64 0, .int .i64 0, .int .i64 0, .int .i64 0] 29))
        replace MW2 := Lib.hid (MW2.out.alloc (.cells #[.int .i64 0, .int .i64 0, .int .i64 0, .int .i64 0, .int .i64 0] 29))
        replace M1 := Lib.hid (M1.out.alloc (.cells #[.int .i64 0, .int .i64 0, .int .i64 0, .int .i64 0, .int .i64 0] 29))
        have KR := Lib.hid (Tx.heap1 w11 (.cells #[.int .i64 0, .int .i64 0, .int .i64 0, .int .i64 0, .int .i64 0] 29))
        rw [hV12] at BT K LG KS ME MW2 M1 KR
        have sV12 : w11.heap.size < V12.heap.size := by rw [← hV12]; simp
        have KRo := KR
        have bs : Below w11.heap.size V12 (V12.setRow w11.heap.size #[.int .i64 qu, .int .i64 qs, .int .i64 qh, .int .i64 qa, .int .i64 qn]) := below_setRow (Below.refl _ _) (Nat.le_refl _) _
        have KR2 : Hid ((V12.setRow w11.heap.size #[.int .i64 qu, .int .i64 qs, .int .i64 qh, .int .i64 qa, .int .i64 qn]).heap[w11.heap.size]? = some (.cells #[.int .i64 qu, .int .i64 qs, .int .i64 qh, .int .i64 qa, .int .i64 qn] 29)) := setRow_heap _ _ _ _ _ _ KR.out
        have BT2 := Lib.hid (BT.out.below (bs.mono (by omega)))
        have K2 := Lib.hid (K.out.trans (bs.mono (by omega)))
        have LG2 := Lib.hid (LG.out.heap (w' := (V12.setRow w11.heap.size #[.int .i64 qu, .int .i64 qs, .int .i64 qh, .int .i64 qa, .int .i64 qn])) (fun k e => setRow_other _ _ _ _ (by have := hlLG k e; omega)))
        have KS2 := Lib.hid (show (V12.setRow w11.heap.size #[.int .i64 qu, .int .i64 qs, .int .i64 qh, .int .i64 qa, .int .i64 qn]).heap[_]? = _ from (setRow_other _ _ _ _ (by omega)).trans KS.out)
        have hbME : _ ≤ _ ∧ _ < w11.heap.size := hbME0
        have ME2 := Lib.hid (ME.out.heap (w' := (V12.setRow w11.heap.size #[.int .i64 qu, .int .i64 qs, .int .i64 qh, .int .i64 qa, .int .i64 qn])) (setRow_other _ _ _ _ (by omega)))
        have hbMW2 : _ ≤ _ ∧ _ < w11.heap.size := hbMW20
        have MW22 := Lib.hid (MW2.out.heap (w' := (V12.setRow w11.heap.size #[.int .i64 qu, .int .i64 qs, .int .i64 qh, .int .i64 qa, .int .i64 qn])) (setRow_other _ _ _ _ (by omega)))
        have hbM1 : _ ≤ _ ∧ _ < w11.heap.size := hbM10
        have M12 := Lib.hid (M1.out.heap (w' := (V12.setRow w11.heap.size #[.int .i64 qu, .int .i64 qs, .int .i64 qh, .int .i64 qa, .int .i64 qn])) (setRow_other _ _ _ _ (by omega)))
        have sR := bs.size
        go_upto_region 15 with (first | (refine wpList_store_row rfl 29 _ _ rfl (w11.heap.size) #[.int .i64 qu, .int .i64 qs, .int .i64 qh, .int .i64 qa, .int .i64 qn] rfl rfl 29 _ KRo.out (by kernel_rfl) rfl (by simp [Value.oneCell']) ?_))
        clear hV12 
        generalize (V12.setRow w11.heap.size #[.int .i64 qu, .int .i64 qs, .int .i64 qh, .int .i64 qa, .int .i64 qn]) = S12 at KR2 BT2 K2 LG2 KS2 ME2 MW22 M12 sR ⊢
        clear bs KRo KR BT K LG KS ME MW2 M1
        have KR := KR2
        have BT := BT2
        have K := K2
        have LG := LG2
        have KS := KS2
        have ME := ME2
        have MW2 := MW22
        have M1 := M12
        clear KR2 BT2 K2 LG2 KS2 ME2 MW22 M12
        have sSS12 : V12.heap.size ≤ S12.heap.size := sR
        clear sR
        clear hbME0
        clear hbMW20
        clear hbM10
        clear KR
        obtain ⟨tn, htn0⟩ : ∃ t, Tx.decT E.length = t := ⟨_, rfl⟩
        have htn : tn.size ≤ 19 := by rw [← htn0]; exact (Tx.decT_size (by omega)).2
        have htn3 : (⟨#[101, 110, 100]⟩ : ByteArray).size = 3 := rfl
        have hend : (⟨#[101, 110, 100]⟩ : ByteArray) ++ tn = Tx.endT E.length := by rw [Tx.endT, Tx.intT, if_neg (by omega), ← htn0]; congr 2
        have htn2 : (Tx.endT E.length).size ≤ 40 := by rw [← hend, ByteArray.size_append]; omega
        have HEND := Lib.hid hend
        clear hend
        obtain ⟨i0, hi, hz0, hz1, hz2⟩ := info_parts Tx.infoString
        go_wp2
        refine Tx.wp_region_own (W := S12) [] (fun _ => True) Tx.stays_true trivial [0, 0, 0, 0, 1, 0, 2, 0, 4, 1, 0, 0, 0, 2, 3, 0] (by kernel_rfl) (by kernel_rfl) (by kernel_rfl) ?_
        have fk : ∀ q : Tx.In (Tx.plainEnv S12 []), _ := fun q => (Tx.blk15 (q.block KS.out (by simp))).1
        refine Tx.wpO_quiet 4 rfl (by kernel_rfl) ?_
        simp only [List.take, List.drop]
        repeat (go_big_quiet_step (fail))
        refine wpQuiet_nil ?_
        refine Tx.wpO_call (f := 12) (args := #[.int .i64 (E.length : Int)]) (.string tn) rfl (fun w' => by simp [go_sem]) (fun w' hw _ => ?_) ?_
        · exact (Tx.digits_any E.length (by omega) w').mono fun e w'' ⟨he, b1⟩ => ⟨by rw [he, htn0], b1⟩
        simp only [Act.put, List.setIfInBounds_toArray, List.set_cons_succ, List.set_cons_zero]
        refine Tx.wpO_quiet 1 rfl (by kernel_rfl) ?_
        simp only [List.take, List.drop]
        repeat (go_big_quiet_step (fail))
        refine wpQuiet_nil ?_
        refine Tx.wpO_row (.cells #[.string (⟨#[101, 110, 100]⟩ ++ tn)] 9) 1 rfl (fun w' => by simp [go_sem]) fun gf mgf hgf => ?_
        have hgf0 : S12.heap.size ≤ gf := mgf
        simp only [Act.put, List.setIfInBounds_toArray, List.set_cons_succ, List.set_cons_zero]
        refine Tx.wpO_quiet 1 rfl (by kernel_rfl) ?_
        simp only [List.take, List.drop]
        repeat (go_big_quiet_step (fail))
        refine wpQuiet_nil ?_
        refine Tx.wpO_append4 (fun _ => True) _ _ 36 rfl rfl S12.heap.size 9 i0 (.string ByteArray.empty) 1 16 Tryd.underlying36 hi hz0 hz1 hz2 rfl (by decide) 1 [.string (⟨#[101, 110, 100]⟩ ++ tn)] gf 1 rfl (.inl hgf0) (.inr (by simp)) ⟨w9.heap.size, 0, none⟩ 3 3 (W3.map Value.string) rfl rfl (by intro u hu; obtain ⟨t, _, rfl⟩ := List.mem_map.1 hu; rfl) (by unfold maxLen; omega) (by omega) (Nat.le_refl _) (fun k hk => .inl hk) (fun w' hw hF => ⟨trivial, Tx.own_one hF.2 hgf0, Tx.news_strs (MW2.out.below (Tx.kept_below hw))⟩) Tx.stays_true (Tx.away_true _) fun gl cl hgl => ?_
        simp only [Act.put, List.setIfInBounds_toArray, List.set_cons_succ, List.set_cons_zero]
        obtain ⟨⟨⟨ru, rs, rh, ra⟩, rn⟩, hr⟩ : ∃ x, (if Tx.rowOkB ⟨⟨vfu, vfs, vfh, vfa⟩, vfn⟩ then Tx.putAllR ⟨⟨vfu, vfs, vfh, vfa⟩, vfn⟩ ((⟨#[101, 110, 100]⟩ ++ tn) :: W3) else .zero) = x := ⟨_, rfl⟩
        obtain ⟨ys, hys⟩ : ∃ x, (if Tx.rowOkB ⟨⟨vfu, vfs, vfh, vfa⟩, vfn⟩ then Tx.putAllL ⟨⟨vfu, vfs, vfh, vfa⟩, vfn⟩ ((⟨#[101, 110, 100]⟩ ++ tn) :: W3) else []) = x := ⟨_, rfl⟩
        have hlys : ys.length ≤ 4 := by
          rw [← hys]
          split
          · exact Nat.le_trans (Tx.putAllL_length _ _) (by first | (simp [W3]; omega) | simp [W3] | omega)
          · exact Nat.zero_le _
        have hmys : ∀ b ∈ ys, b ∈ Tx.putAllL ⟨⟨vfu, vfs, vfh, vfa⟩, vfn⟩ ((⟨#[101, 110, 100]⟩ ++ tn) :: W3) := fun b hb => by
          rw [← hys] at hb
          split at hb
          · exact hb
          · cases hb
        have hyn : 0 < ys.length := by
          have h1 := hput (⟨#[101, 110, 100]⟩ ++ tn) (by rw [HEND.out]; exact htn2)
          have h2 : Tx.rowOkB ⟨⟨vfu, vfs, vfh, vfa⟩, vfn⟩ = true := by
            have h3 := h1
            simp only [Tx.putB, Bool.and_eq_true] at h3
            exact h3.1
          rw [← hys, if_pos h2, Tx.putAllL, if_pos h1]
          simp
        refine Tx.wpO_callx (f := 11) (args := #[.agg #[.int .i64 vfu, .int .i64 vfs, .int .i64 vfh, .int .i64 vfa, .int .i64 vfn], .slice (some ⟨gl, 0, none⟩) (1 + 3) cl]) (α := Nat × Nat) (fun x => .tuple #[.agg #[.int .i64 ru, .int .i64 rs, .int .i64 rh, .int .i64 ra, .int .i64 rn], .slice (some ⟨x.1, 0, none⟩) ys.length x.2]) (fun x => [x.1]) (fun x w' => Tx.MadeB w' S12.heap.size ys x.1 x.2) rfl (fun w' => by simp [go_sem]) (fun x w1 w2 hw h b => h.below b) (fun G => ?_) (fun w' hw hF => ?_) (fun x hx => ?_)
        · obtain ⟨g, hg, hn⟩ := Tx.fresh_above S12.heap.size G
          exact ⟨(g, 0), fun k hk => by simp at hk; subst hk; exact ⟨hg, hn⟩⟩
        · have h1 := Tx.PutAll_spec ⟨⟨vfu, vfs, vfh, vfa⟩, vfn⟩ _ _ cl _ w' (by have h9 := Tx.madeS_strs (own_app (k := 1 + 3) rfl hF.2); exact h9) (by simp [W3])
          unfold Tx.PutAllOut at h1
          rw [hr, hys] at h1
          exact h1.mono fun e w'' ⟨gb, cb, he, m1, b1⟩ => ⟨(gb, cb), he, m1.mono (Tx.kept_below hw).size, b1, fun k hk => by simp at hk; subst hk; exact m1.base⟩
        obtain ⟨gp, cp⟩ := x
        have hgp : S12.heap.size ≤ gp := (hx gp (by simp)).1
        dsimp only
        clear hr hys
        simp only [Act.put, List.setIfInBounds_toArray, List.set_cons_succ, List.set_cons_zero]
        refine Tx.wpO_quiet 3 rfl (by kernel_rfl) ?_
        simp only [List.take, List.drop]
        repeat (go_big_quiet_step (fail))
        refine wpQuiet_nil ?_
        refine Tx.wpO_alloc (.cells #[.int .i64 0, .int .i64 0, .int .i64 0, .int .i64 0, .int .i64 0] 29) rfl (fun w' => by simp [go_sem]) fun g6 mg6 hn6 => ?_
        have hg6 : S12.heap.size ≤ g6 := mg6
        have hne6 : gp ≠ g6 := fun e => hn6 (by rw [← e]; simp)
        simp only [Act.put, List.setIfInBounds_toArray, List.set_cons_succ, List.set_cons_zero]
        refine Tx.wpO_store (g := g6) (t := 29) (old := #[.int .i64 0, .int .i64 0, .int .i64 0, .int .i64 0, .int .i64 0]) (fun w' => Tx.MadeB w' S12.heap.size ys gp cp) #[.int .i64 ru, .int .i64 rs, .int .i64 rh, .int .i64 ra, .int .i64 rn] rfl rfl rfl rfl (Tx.Env.own _ mg6) (by kernel_rfl) rfl rfl (fun w' h => ⟨h.1.2, h.2⟩) (fun w1 w2 hw h b => h.below b) (fun w1 w2 hw h => h.heap (hw gp h.base.2 hne6)) ?_
        simp only [Act.put]
        refine Tx.wpO_quiet 1 rfl (by kernel_rfl) ?_
        simp only [List.take, List.drop]
        repeat (go_big_quiet_step (fail))
        refine wpQuiet_nil ?_
        refine Tx.wpO_nil ?_
        rintro w13 b' ⟨H4, _⟩
        have b := Tx.kept_below b'
        replace BT := Lib.hid (BT.out.below (b.mono K.out.size))
        replace K := Lib.hid (K.out.trans (b.mono K.out.size))
        replace LG := Lib.hid (LG.out.on b)
        replace KS := Lib.hid (Tx.blk_on b KS.out)
        replace ME := Lib.hid (ME.out.below b)
        replace MW2 := Lib.hid (MW2.out.below b)
        replace M1 := Lib.hid (M1.out.below b)
        have M2 := Lib.hid H4
        have sw13 := b.size
        clear b b' H4 fk
        rw [HEND.out] at hmys
        have hroad : ∀ b ∈ xs ++ ys, Tx.RoadB ⟨veu, ves, veh, vea⟩ ⟨vfu, vfs, vfh, vfa⟩ E (Tx.endT E.length :: W3) b := Tx.road_boxes (s := ⟨vst, vsh, vsd, vsp, ⟨⟨veu, ves, veh, vea⟩, ven⟩, ⟨⟨vfu, vfs, vfh, vfa⟩, vfn⟩⟩) HEN.out HFN.out hmxs hmys
        have HROAD := Lib.hid hroad
        have hbl : 0 < (xs ++ ys).length := by rw [List.length_append]; omega
        have hbl2 : (xs ++ ys).length ≤ 9 := by rw [List.length_append]; omega
        clear hroad hmxs hmys HEN HFN hput HEND htn htn2 htn0
        go_upto_region 16 with fail
        go_cut [17] (fun cc wx => ∃ ga ca, cc = .slice (some ⟨ga, 0, none⟩) (E ++ W3).length ca ∧ Hid (Tx.MadeS wx w13.heap.size (E ++ W3) ga ca) ∧ Hid (Below w13.heap.size w13 wx))
        case first =>
          as_aux_lemma =>
            have hdum : True := trivial
            obtain ⟨W1, hW1⟩ : ∃ x, w13.alloc (.cells #[] 9) = x := ⟨_, rfl⟩
            have own0 : Hid (W1.ownsRow w13.heap.size 9 1 (.slice (some ⟨w13.heap.size, 0, none⟩) 0 0) 0 []) := by rw [← hW1]; exact own_empty (Tx.heap1 w13 _) (Nat.le_refl _)
            have bW1 : Hid (Below w13.heap.size w13 W1) := by rw [← hW1]; exact (Below.refl _ _).alloc (Nat.le_refl _) _
            have sW1 := bW1.out.size
            have NA := Lib.hid (Tx.news_strs (ME.out.below bW1.out))
            go_wp2_with (first
              | (at_builtin; refine wpList_append_own _ rfl _ _ 36 rfl w13.heap.size 9 i0 (.string ByteArray.empty) 1 16 Tryd.underlying36 hi hz0 hz1 hz2 rfl (by decide) (.slice (some ⟨w13.heap.size, 0, none⟩) 0 0) 0 [] rfl own0.out ⟨ge, 0, none⟩ E.length ce (E.map Value.string) rfl (by simp) NA.out (by intro u hu; obtain ⟨t, _, rfl⟩ := List.mem_map.1 hu; rfl) (by unfold maxLen; omega) (by omega) (by omega) ?_; intro v1 w21 hown1 hgr1 hnil1; rw [Nat.zero_add, List.nil_append] at hown1; obtain ⟨g1, c1, hv1, ho1⟩ := own_some hown1 (fun e => by have := (hnil1.1 e).1; cases this); subst hv1; have OW1 := Lib.hid ho1; have BW2 : Hid (Below w13.heap.size w13 w21) := bW1.out.grown hgr1 bW1.out.size (fun j e => by have e1 : w13.heap.size = j := Option.some.inj e; omega); have sW2 := BW2.out.size; have NB := Lib.hid (Tx.news_strs (MW2.out.below BW2.out)); have hg1 := (ho1.lt g1 rfl).1; clear hown1 hgr1 hnil1 ho1)
              | (at_builtin; refine wpList_append_own _ rfl _ _ 36 rfl w13.heap.size 9 i0 (.string ByteArray.empty) 1 16 Tryd.underlying36 hi hz0 hz1 hz2 rfl (by decide) (.slice (some ⟨g1, 0, none⟩) E.length c1) E.length (E.map Value.string) rfl OW1.out ⟨w9.heap.size, 0, none⟩ 3 3 (W3.map Value.string) rfl rfl NB.out (by intro u hu; obtain ⟨t, _, rfl⟩ := List.mem_map.1 hu; rfl) (by unfold maxLen; omega) (by omega) (by omega) ?_; intro v2 w22 hown2 hgr2 hnil2; obtain ⟨g2, c2, hv2, ho2⟩ := own_some hown2 (fun e => by have := (hnil2.1 e).1; cases this); subst hv2; have OW2 := Lib.hid ho2; have BW3 : Hid (Below w13.heap.size w13 w22) := BW2.out.grown hgr2 BW2.out.size (fun j e => by have e1 : g1 = j := Option.some.inj e; omega); clear hown2 hgr2 hnil2 ho2))
            go_meet
            exact ⟨g2, c2, by simp [W3], strs_all (by simp [W3]) OW2.out, BW3⟩
        case rest =>
          obtain ⟨ga, ca, rfl, MA0, hb⟩ := hcut
          have b := hb.out
          clear hb
          clear ME MW2
          replace BT := Lib.hid (BT.out.below (b.mono K.out.size))
          replace K := Lib.hid (K.out.trans (b.mono K.out.size))
          replace LG := Lib.hid (LG.out.on b)
          replace KS := Lib.hid (Tx.blk_on b KS.out)
          replace M1 := Lib.hid (M1.out.below b)
          replace M2 := Lib.hid (M2.out.below b)
          have swe := b.size
          clear b
          obtain ⟨w14, hw14⟩ : ∃ x, wc = x := ⟨_, rfl⟩
          rw [hw14] at MA0 BT K LG KS M1 M2 swe ⊢
          clear hw14
          have MA := MA0
          clear MA0
          obtain ⟨al, hal⟩ : ∃ o, E ++ W3 = o := ⟨_, rfl⟩
          have hall : al.length ≤ 8 := by rw [← hal, List.length_append]; simp [W3]; omega
          rw [hal] at MA ⊢
          have HAL := Lib.hid hal
          clear hal
          go_upto_region 17 with fail
          go_cut [18] (fun cc wx => ∃ gx cx, cc = .slice (some ⟨gx, 0, none⟩) (xs ++ ys).length cx ∧ Hid (Tx.MadeB wx w14.heap.size (xs ++ ys) gx cx) ∧ Hid (Below w14.heap.size w14 wx))
          case first =>
            as_aux_lemma =>
              clear hi hz0 hz1 hz2
              obtain ⟨i0, by1, hi, hz0, hz1, hz2, hby⟩ := Tx.infoBoxE
              obtain ⟨W1, hW1⟩ : ∃ x, w14.alloc (.cells #[] 43) = x := ⟨_, rfl⟩
              have own0 : Hid (W1.ownsRow w14.heap.size 43 7 (.slice (some ⟨w14.heap.size, 0, none⟩) 0 0) 0 []) := by rw [← hW1]; exact own_empty (Tx.heap1 w14 _) (Nat.le_refl _)
              have bW1 : Hid (Below w14.heap.size w14 W1) := by rw [← hW1]; exact (Below.refl _ _).alloc (Nat.le_refl _) _
              have sW1 := bW1.out.size
              have NA := Lib.hid (Tx.news_boxes (M1.out.below bW1.out))
              go_wp2_with (first
                | (at_builtin; refine wpList_append_own _ rfl _ _ 38 rfl w14.heap.size 43 i0 Tx.BoxV.zero.val 7 by1 Tryd.underlying38 hi hz0 hz1 hz2 rfl (by decide) (.slice (some ⟨w14.heap.size, 0, none⟩) 0 0) 0 [] rfl own0.out ⟨gb, 0, none⟩ xs.length cb (xs.flatMap Tx.BoxV.cells) rfl (Tx.cells_flat _) NA.out (by intro u hu; obtain ⟨b, _, hb⟩ := List.mem_flatMap.1 hu; exact Tx.cells_one b u hb) (by unfold maxLen; omega) (Nat.le_trans (Nat.mul_le_mul (by omega : 0 + xs.length ≤ 1048576) hby) (by decide)) (by omega) ?_; intro v1 w21 hown1 hgr1 hnil1; rw [Nat.zero_add, List.nil_append] at hown1; obtain ⟨g1, c1, hv1, ho1⟩ := own_some hown1 (fun e => by have := (hnil1.1 e).1; cases this); subst hv1; have OW1 := Lib.hid ho1; have BW2 : Hid (Below w14.heap.size w14 w21) := bW1.out.grown hgr1 bW1.out.size (fun j e => by have e1 : w14.heap.size = j := Option.some.inj e; omega); have sW2 := BW2.out.size; have NB := Lib.hid (Tx.news_boxes (M2.out.below BW2.out)); have hg1 := (ho1.lt g1 rfl).1; clear hown1 hgr1 hnil1 ho1)
                | (at_builtin; refine wpList_append_own _ rfl _ _ 38 rfl w14.heap.size 43 i0 Tx.BoxV.zero.val 7 by1 Tryd.underlying38 hi hz0 hz1 hz2 rfl (by decide) (.slice (some ⟨g1, 0, none⟩) xs.length c1) xs.length (xs.flatMap Tx.BoxV.cells) rfl OW1.out ⟨gp, 0, none⟩ ys.length cp (ys.flatMap Tx.BoxV.cells) rfl (Tx.cells_flat _) NB.out (by intro u hu; obtain ⟨b, _, hb⟩ := List.mem_flatMap.1 hu; exact Tx.cells_one b u hb) (by unfold maxLen; omega) (Nat.le_trans (Nat.mul_le_mul (by omega : xs.length + ys.length ≤ 1048576) hby) (by decide)) (by omega) ?_; intro v2 w22 hown2 hgr2 hnil2; obtain ⟨g2, c2, hv2, ho2⟩ := own_some hown2 (fun e => by have := (hnil2.1 e).1; cases this); subst hv2; have OW2 := Lib.hid ho2; have BW3 : Hid (Below w14.heap.size w14 w22) := BW2.out.grown hgr2 BW2.out.size (fun j e => by have e1 : g1 = j := Option.some.inj e; omega); clear hown2 hgr2 hnil2 ho2))
              go_meet
              exact ⟨g2, c2, by simp, boxes_all (by simp) OW2.out, BW3⟩
          case rest =>
            obtain ⟨gx, cx, rfl, MX0, hb⟩ := hcut
            have b := hb.out
            clear hb
            clear M1 M2
            replace BT := Lib.hid (BT.out.below (b.mono K.out.size))
            replace K := Lib.hid (K.out.trans (b.mono K.out.size))
            replace LG := Lib.hid (LG.out.on b)
            replace KS := Lib.hid (Tx.blk_on b KS.out)
            replace MA := Lib.hid (MA.out.below b)
            have swf := b.size
            clear b
            obtain ⟨w15, hw15⟩ : ∃ x, wc = x := ⟨_, rfl⟩
            rw [hw15] at MX0 BT K LG KS MA swf ⊢
            clear hw15
            have MX := MX0
            clear MX0
            obtain ⟨bx, hbx⟩ : ∃ o, xs ++ ys = o := ⟨_, rfl⟩
            rw [hbx] at HROAD hbl hbl2 MX ⊢
            have hEnd := Lib.hid (fun (n : Nat) (_ : n ≤ 60) (h : Tx.isEnd (Tx.endT E.length) n = true) => Tx.end_only hE5 h)
            have HKK := Lib.hid hkk
            clear hbx hkk hi hz0 hz1 hz2
            have hbase : w1.heap.size ≤ w2.heap.size := by omega
            have hjl : ∀ j, Tx.blkA A1 = some j → j ≠ w2.heap.size := fun j e => by have := hlLG j e; omega
            go_wp2
            go_loopw [19] (fun i wr => ∃ (k : Nat) (s : Tx.SeatV) (B : Option Addr) (m mc : Nat) (l : List Tx.WordV), (k : Int) ≤ 30 ∧ i = .int .i64 k ∧ m ≤ 100 ∧ Tx.RoadI ⟨veu, ves, veh, vea⟩ ⟨vfu, vfs, vfh, vfa⟩ E W3 s l ∧ (∀ j, Tx.blkA B = some j → j ≠ w2.heap.size) ∧ Hid (Tx.OutE wr w1.heap.size 69 B m mc l) ∧ Hid (wr.heap[w2.heap.size]? = some (.cells (s.cells B m mc).toArray 32)) ∧ Hid (Tx.MadeB wr w14.heap.size bx gx cx) ∧ Hid (Tx.MadeS wr w13.heap.size al ga ca) ∧ Hid (Tx.BytesAt wr w.heap.size A n) ∧ Hid (Below w.heap.size w wr) ∧ w15.heap.size ≤ wr.heap.size) (fun i _ => 30 - (intOf i).toNat)
            case atStart => exact ⟨0, ⟨vst, vsh, vsd, vsp, ⟨⟨veu, ves, veh, vea⟩, ven⟩, ⟨⟨vfu, vfs, vfh, vfa⟩, vfn⟩⟩, A1, 0, a1, [], by omega, rfl, by omega, (hRI E).out, hjl, LG, KS, MX, MA, BT, K, Nat.le_refl _⟩
            case round =>
              clear hjl hRI LG KS MX MA BT K
              obtain ⟨k, ⟨sst, ssh, ssd, ssp, ⟨⟨seu, ses, seh, sea⟩, sen⟩, ⟨⟨sfu, sfs, sfh, sfa⟩, sfn⟩⟩, B, m, mc, l, hk, rfl, hm, hRI, hjk, LG, KS', MX, MA, BT, K, hsz⟩ := hrel
              have KS : Hid (wr.heap[w2.heap.size]? = some (.cells #[.int .i64 sst, .int .i64 ssh, .int .i64 ssd, .int .i64 ssp, .int .i64 seu, .int .i64 ses, .int .i64 seh, .int .i64 sea, .int .i64 sen, .int .i64 sfu, .int .i64 sfs, .int .i64 sfh, .int .i64 sfa, .int .i64 sfn, .slice B m mc] 32)) := KS'
              clear KS'
              have sK := K.out.size
              have hk0 : (0 : Int) ≤ (k : Int) := by omega
              have hlm : l.length = m := LG.out.len
              have hlLG : ∀ j, Tx.blkA B = some j → j < wr.heap.size ∧ j ≠ w2.heap.size ∧ w1.heap.size ≤ j := fun j e => ⟨(LG.out.lt e).2, hjk j e, (LG.out.lt e).1⟩
              have hzc : B = none → mc = 0 := fun e => by
                rcases LG.out with ⟨_, _, h, _⟩ | ⟨g, h, _⟩
                · exact h
                · rw [h] at e; cases e
              by_cases hlt : (k : Int) < 30
              · have hbi : (0 : Int) < (bx.length : Int) := by omega
                go_wp2_with fail
                refine (Tx.pick_any _ A n cap (k : Int) (bx.length : Int) hn (BT.out.up K.out.size) (by omega) (by omega) (by omega) (by omega)).mono ?_
                rintro e w16 ⟨⟨kk, hk1, hk2, rfl⟩, rfl⟩
                obtain ⟨k2, rfl⟩ := Int.eq_ofNat_of_zero_le hk1
                obtain ⟨⟨⟨xu, xs, xh, xa⟩, xn, xt, xp⟩, hx⟩ : ∃ x, bx[k2]? = some x := ⟨_, List.getElem?_eq_getElem (by omega)⟩
                have hkn : (k2 : Int) < (bx.length : Int) := by omega
                have hRB := Lib.hid (HROAD.out _ (List.mem_of_getElem? hx))
                obtain ⟨e0, e1, e2, e3, e4, e5, e6⟩ := Tx.box_cells MX.out hx
                dsimp only at e0 e1 e2 e3 e4 e5 e6
                have hbMX0 := MX.out.base
                have hbMA0 := MA.out.base
                obtain ⟨V17, hV17⟩ : ∃ W, wr.alloc (.cells #[.int .i64 0, .int .i64 0, .int .i64 0, .int .i64 0, .int .i64 0, .string ⟨#[]⟩, .bool false] 43) = W := ⟨_, rfl⟩
                replace LG := Lib.hid (LG.out.on ((Below.refl _ _).alloc (Nat.le_refl _) (.cells #[.int .i64 0, .int .i64 0, .int .i64 0, .int .i64 0, .int .i64 0, .string ⟨#[]⟩, .bool false] 43)))
                replace KS := Lib.hid (Tx.alloc_blk (o := .cells #[.int .i64 0, .int .i64 0, .int .i64 0, .int .i64 0, .int .i64 0, .string ⟨#[]⟩, .bool false] 43) KS.out)
                replace MX := Lib.hid (MX.out.alloc (.cells #[.int .i64 0, .int .i64 0, .int .i64 0, .int .i64 0, .int .i64 0, .string ⟨#[]⟩, .bool false] 43))
                replace MA := Lib.hid (MA.out.alloc (.cells #[.int .i64 0, .int .i64 0, .int .i64 0, .int .i64 0, .int .i64 0, .string ⟨#[]⟩, .bool false] 43))
                replace BT := Lib.hid (BT.out.below ((Below.refl _ _).alloc K.out.size (.cells #[.int .i64 0, .int .i64 0, .int .i64 0, .int .i64 0, .int .i64 0, .string ⟨#[]⟩, .bool false] 43)))
                replace K := Lib.hid (K.out.alloc K.out.size (.cells #[.int .i64 0, .int .i64 0, .int .i64 0, .int .i64 0, .int .i64 0, .string ⟨#[]⟩, .bool false] 43))
                have KB := Lib.hid (Tx.heap1 wr (.cells #[.int .i64 0, .int .i64 0, .int .i64 0, .int .i64 0, .int .i64 0, .string ⟨#[]⟩, .bool false] 43))
                rw [hV17] at LG KS MX MA BT K KB
                have sV17 : wr.heap.size < V17.heap.size := by rw [← hV17]; simp
                have KBo := KB
                have bs : Below wr.heap.size V17 (V17.setRow wr.heap.size #[.int .i64 xu, .int .i64 xs, .int .i64 xh, .int .i64 xa, .int .i64 xn, .string xt, .bool xp]) := below_setRow (Below.refl _ _) (Nat.le_refl _) _
                have KB2 : Hid ((V17.setRow wr.heap.size #[.int .i64 xu, .int .i64 xs, .int .i64 xh, .int .i64 xa, .int .i64 xn, .string xt, .bool xp]).heap[wr.heap.size]? = some (.cells #[.int .i64 xu, .int .i64 xs, .int .i64 xh, .int .i64 xa, .int .i64 xn, .string xt, .bool xp] 43)) := setRow_heap _ _ _ _ _ _ KB.out
                have LG2 := Lib.hid (LG.out.heap (w' := (V17.setRow wr.heap.size #[.int .i64 xu, .int .i64 xs, .int .i64 xh, .int .i64 xa, .int .i64 xn, .string xt, .bool xp])) (fun k e => setRow_other _ _ _ _ (by have := hlLG k e; omega)))
                have KS2 := Lib.hid (show (V17.setRow wr.heap.size #[.int .i64 xu, .int .i64 xs, .int .i64 xh, .int .i64 xa, .int .i64 xn, .string xt, .bool xp]).heap[_]? = _ from (setRow_other _ _ _ _ (by omega)).trans KS.out)
                have hbMX : _ ≤ _ ∧ _ < wr.heap.size := hbMX0
                have MX2 := Lib.hid (MX.out.heap (w' := (V17.setRow wr.heap.size #[.int .i64 xu, .int .i64 xs, .int .i64 xh, .int .i64 xa, .int .i64 xn, .string xt, .bool xp])) (setRow_other _ _ _ _ (by omega)))
                have hbMA : _ ≤ _ ∧ _ < wr.heap.size := hbMA0
                have MA2 := Lib.hid (MA.out.heap (w' := (V17.setRow wr.heap.size #[.int .i64 xu, .int .i64 xs, .int .i64 xh, .int .i64 xa, .int .i64 xn, .string xt, .bool xp])) (setRow_other _ _ _ _ (by omega)))
                have BT2 := Lib.hid (BT.out.below (bs.mono (by omega)))
                have K2 := Lib.hid (K.out.trans (bs.mono (by omega)))
                have sR := bs.size
                go_wp2_with (first | (refine wpList_store_row rfl 43 _ _ rfl (wr.heap.size) #[.int .i64 xu, .int .i64 xs, .int .i64 xh, .int .i64 xa, .int .i64 xn, .string xt, .bool xp] rfl rfl 43 _ KBo.out (by kernel_rfl) rfl (by simp [Value.oneCell']) ?_))
                clear hV17 
                generalize (V17.setRow wr.heap.size #[.int .i64 xu, .int .i64 xs, .int .i64 xh, .int .i64 xa, .int .i64 xn, .string xt, .bool xp]) = S17 at KB2 LG2 KS2 MX2 MA2 BT2 K2 sR ⊢
                clear bs KBo KB LG KS MX MA BT K
                have KB := KB2
                have LG := LG2
                have KS := KS2
                have MX := MX2
                have MA := MA2
                have BT := BT2
                have K := K2
                clear KB2 LG2 KS2 MX2 MA2 BT2 K2
                have sSS17 : V17.heap.size ≤ S17.heap.size := sR
                clear sR
                clear hbMX0
                clear hbMA0
                clear e0 e1 e2 e3 e4 e5 e6 hx
                refine (Tx.pick_any _ A n cap ((k : Int) + 50) 5 hn (BT.out.up K.out.size) (by omega) (by omega) (by omega) (by omega)).mono ?_
                rintro e w18 ⟨⟨kk, hk3, hk4, rfl⟩, rfl⟩
                clear hk3 hk4
                by_cases hkz : kk = 0
                · as_aux_lemma =>
                    have hkb : (kk == 0) = true := by rw [hkz]; rfl
                    go_wp2_with (refine wpList_load_row rfl 43 _ rfl (wr.heap.size) rfl 43 _ (0, 0) _ KB.out Tryd.underlying43 rfl (by kernel_rfl) ?_)
                    refine (Tx.Spoil_spec ⟨⟨xu, xs, xh, xa⟩, xn, xt, xp⟩ _).mono ?_
                    rintro e w19 ⟨rfl, b⟩
                    replace LG := Lib.hid (LG.out.on b)
                    replace KS := Lib.hid (Tx.blk_on b KS.out)
                    replace MX := Lib.hid (MX.out.below b)
                    replace MA := Lib.hid (MA.out.below b)
                    replace BT := Lib.hid (BT.out.below (b.mono K.out.size))
                    replace K := Lib.hid (K.out.trans (b.mono K.out.size))
                    replace KB := Lib.hid (Tx.blk_on b KB.out)
                    have sw19 := b.size
                    clear b
                    have HS : Hid (Tx.BoxV.val (Tx.BoxV.spoil ⟨⟨xu, xs, xh, xa⟩, xn, xt, xp⟩) = .agg #[.int .i64 xu, .int .i64 xs, .int .i64 xh, .int .i64 xa, .int .i64 xn, .string xt, .bool true]) := rfl
                    rw [HS.out]
                    clear HS
                    have bs : Below wr.heap.size w19 (w19.setRow (wr.heap.size) #[.int .i64 xu, .int .i64 xs, .int .i64 xh, .int .i64 xa, .int .i64 xn, .string xt, .bool true]) := below_setRow (Below.refl _ _) (Nat.le_refl _) _
                    have KB2 : Hid ((w19.setRow (wr.heap.size) #[.int .i64 xu, .int .i64 xs, .int .i64 xh, .int .i64 xa, .int .i64 xn, .string xt, .bool true]).heap[wr.heap.size]? = some (.cells #[.int .i64 xu, .int .i64 xs, .int .i64 xh, .int .i64 xa, .int .i64 xn, .string xt, .bool true] 43)) := setRow_heap _ _ _ _ _ _ KB.out
                    have KS2 := Lib.hid (show (w19.setRow (wr.heap.size) #[.int .i64 xu, .int .i64 xs, .int .i64 xh, .int .i64 xa, .int .i64 xn, .string xt, .bool true]).heap[_]? = _ from (setRow_other _ _ _ _ (by omega)).trans KS.out)
                    have LG2 := Lib.hid (LG.out.heap (w' := (w19.setRow (wr.heap.size) #[.int .i64 xu, .int .i64 xs, .int .i64 xh, .int .i64 xa, .int .i64 xn, .string xt, .bool true])) (fun k e => setRow_other _ _ _ _ (by have := hlLG k e; omega)))
                    have MX2 := Lib.hid (MX.out.heap (w' := (w19.setRow (wr.heap.size) #[.int .i64 xu, .int .i64 xs, .int .i64 xh, .int .i64 xa, .int .i64 xn, .string xt, .bool true])) (setRow_other _ _ _ _ (by omega)))
                    have MA2 := Lib.hid (MA.out.heap (w' := (w19.setRow (wr.heap.size) #[.int .i64 xu, .int .i64 xs, .int .i64 xh, .int .i64 xa, .int .i64 xn, .string xt, .bool true])) (setRow_other _ _ _ _ (by omega)))
                    have BT2 := Lib.hid (BT.out.below (bs.mono (by omega)))
                    have K2 := Lib.hid (K.out.trans (bs.mono (by omega)))
                    have sR := bs.size
                    go_upto_region 24 with (refine wpList_store_row rfl 43 _ _ rfl (wr.heap.size) #[.int .i64 xu, .int .i64 xs, .int .i64 xh, .int .i64 xa, .int .i64 xn, .string xt, .bool true] rfl rfl 43 _ KB.out (by kernel_rfl) rfl (by simp [Value.oneCell']) ?_)
                    generalize (w19.setRow (wr.heap.size) #[.int .i64 xu, .int .i64 xs, .int .i64 xh, .int .i64 xa, .int .i64 xn, .string xt, .bool true]) = S19 at KB2 KS2 LG2 MX2 MA2 BT2 K2 sR ⊢
                    clear bs KB KS LG MX MA BT K
                    have KB := KB2
                    have KS := KS2
                    have LG := LG2
                    have MX := MX2
                    have MA := MA2
                    have BT := BT2
                    have K := K2
                    clear KB2 KS2 LG2 MX2 MA2 BT2 K2
                    obtain ⟨⟨rst, rsh, rsd, rsp, ⟨⟨reu, res, reh, rea⟩, ren⟩, ⟨⟨rfu, rfs, rfh, rfa⟩, rfn⟩⟩, hr⟩ : ∃ o, Tx.hearS ⟨sst, ssh, ssd, ssp, ⟨⟨seu, ses, seh, sea⟩, sen⟩, ⟨⟨sfu, sfs, sfh, sfa⟩, sfn⟩⟩ m ⟨⟨xu, xs, xh, xa⟩, xn, xt, true⟩ = o := ⟨_, rfl⟩
                    obtain ⟨y, hy⟩ : ∃ o, Tx.hearC ⟨sst, ssh, ssd, ssp, ⟨⟨seu, ses, seh, sea⟩, sen⟩, ⟨⟨sfu, sfs, sfh, sfa⟩, sfn⟩⟩ m ⟨⟨xu, xs, xh, xa⟩, xn, xt, true⟩ = o := ⟨_, rfl⟩
                    obtain ⟨ol, hol⟩ : ∃ o, Tx.hearL ⟨sst, ssh, ssd, ssp, ⟨⟨seu, ses, seh, sea⟩, sen⟩, ⟨⟨sfu, sfs, sfh, sfa⟩, sfn⟩⟩ l ⟨⟨xu, xs, xh, xa⟩, xn, xt, true⟩ = o := ⟨_, rfl⟩
                    have hol1 : ol.length ≤ 100 := by rw [← hol]; exact Tx.hearL_small 100 _ _ _ (by omega) (by omega)
                    have hRI2 : Tx.RoadI ⟨veu, ves, veh, vea⟩ ⟨vfu, vfs, vfh, vfa⟩ E W3 ⟨rst, rsh, rsd, rsp, ⟨⟨reu, res, reh, rea⟩, ren⟩, ⟨⟨rfu, rfs, rfh, rfa⟩, rfn⟩⟩ ol := by
                      have h1 := Tx.RoadI.step HKK.out hEnd.out hRI (b := ⟨⟨xu, xs, xh, xa⟩, xn, xt, true⟩) ⟨.inl rfl⟩
                      rw [hlm, hr, hol] at h1
                      exact h1
                    have hh : Calls Tryd.prog 15 #[.agg #[.int .i64 sst, .int .i64 ssh, .int .i64 ssd, .int .i64 ssp, .int .i64 seu, .int .i64 ses, .int .i64 seh, .int .i64 sea, .int .i64 sen, .int .i64 sfu, .int .i64 sfs, .int .i64 sfh, .int .i64 sfa, .int .i64 sfn, .slice B m mc], .agg #[.int .i64 xu, .int .i64 xs, .int .i64 xh, .int .i64 xa, .int .i64 xn, .string xt, .bool true]] S19 fun e w' => ∃ (B : Option Addr) (c : Nat), e = .returned (.tuple #[.agg #[.int .i64 rst, .int .i64 rsh, .int .i64 rsd, .int .i64 rsp, .int .i64 reu, .int .i64 res, .int .i64 reh, .int .i64 rea, .int .i64 ren, .int .i64 rfu, .int .i64 rfs, .int .i64 rfh, .int .i64 rfa, .int .i64 rfn, .slice B ol.length c], .int .i64 y]) ∧ Tx.OutE w' S19.heap.size 69 B ol.length c ol ∧ Below S19.heap.size S19 w' := by
                      have h1 := Tx.Hears_impl ⟨sst, ssh, ssd, ssp, ⟨⟨seu, ses, seh, sea⟩, sen⟩, ⟨⟨sfu, sfs, sfh, sfa⟩, sfn⟩⟩ B m mc l ⟨⟨xu, xs, xh, xa⟩, xn, xt, true⟩ S19 LG.out.elts hzc (by omega) (HTB.out.on K.out)
                      rw [hr, hy, hol] at h1
                      exact h1.mono fun e w' ⟨B, m2, c, he, ho, hb⟩ => by
                        have hm2 := ho.out.len
                        subst hm2
                        exact ⟨B, c, he, ho.out, hb⟩
                    have HRI2 := Lib.hid hRI2
                    clear hr hy hol hRI2 hRI
                    go_wp2_with (first | (refine wpList_load_row rfl 32 _ rfl (w2.heap.size) rfl 32 _ (0, 0) _ KS.out Tryd.underlying32 rfl (by kernel_rfl) ?_) | (refine wpList_load_row rfl 43 _ rfl (wr.heap.size) rfl 43 _ (0, 0) _ KB.out Tryd.underlying43 rfl (by kernel_rfl) ?_))
                    refine (hh).mono ?_
                    rintro e w20 ⟨B2, c2, rfl, ho, b⟩
                    replace LG := Lib.hid (LG.out.on b)
                    replace KS := Lib.hid (Tx.blk_on b KS.out)
                    replace MX := Lib.hid (MX.out.below b)
                    replace MA := Lib.hid (MA.out.below b)
                    replace BT := Lib.hid (BT.out.below (b.mono K.out.size))
                    replace K := Lib.hid (K.out.trans (b.mono K.out.size))
                    replace KB := Lib.hid (Tx.blk_on b KB.out)
                    have sw20 := b.size
                    have L20 := Lib.hid ho
                    have hlL2 := fun j (e : Tx.blkA B2 = some j) => ho.lt e
                    clear ho hh
                    clear b
                    clear LG KB
                    have bs : Below w2.heap.size w20 (w20.setRow (w2.heap.size) #[.int .i64 rst, .int .i64 rsh, .int .i64 rsd, .int .i64 rsp, .int .i64 reu, .int .i64 res, .int .i64 reh, .int .i64 rea, .int .i64 ren, .int .i64 rfu, .int .i64 rfs, .int .i64 rfh, .int .i64 rfa, .int .i64 rfn, .slice B2 ol.length c2]) := below_setRow (Below.refl _ _) (Nat.le_refl _) _
                    have KS2 : Hid ((w20.setRow (w2.heap.size) #[.int .i64 rst, .int .i64 rsh, .int .i64 rsd, .int .i64 rsp, .int .i64 reu, .int .i64 res, .int .i64 reh, .int .i64 rea, .int .i64 ren, .int .i64 rfu, .int .i64 rfs, .int .i64 rfh, .int .i64 rfa, .int .i64 rfn, .slice B2 ol.length c2]).heap[w2.heap.size]? = some (.cells #[.int .i64 rst, .int .i64 rsh, .int .i64 rsd, .int .i64 rsp, .int .i64 reu, .int .i64 res, .int .i64 reh, .int .i64 rea, .int .i64 ren, .int .i64 rfu, .int .i64 rfs, .int .i64 rfh, .int .i64 rfa, .int .i64 rfn, .slice B2 ol.length c2] 32)) := setRow_heap _ _ _ _ _ _ KS.out
                    have L22 : Hid (Tx.OutE (w20.setRow (w2.heap.size) #[.int .i64 rst, .int .i64 rsh, .int .i64 rsd, .int .i64 rsp, .int .i64 reu, .int .i64 res, .int .i64 reh, .int .i64 rea, .int .i64 ren, .int .i64 rfu, .int .i64 rfs, .int .i64 rfh, .int .i64 rfa, .int .i64 rfn, .slice B2 ol.length c2]) S19.heap.size 69 B2 ol.length c2 ol) := L20.out.heap (fun k e => setRow_other _ _ _ _ (by have := hlL2 k e; omega))
                    have MX2 := Lib.hid (MX.out.heap (w' := (w20.setRow (w2.heap.size) #[.int .i64 rst, .int .i64 rsh, .int .i64 rsd, .int .i64 rsp, .int .i64 reu, .int .i64 res, .int .i64 reh, .int .i64 rea, .int .i64 ren, .int .i64 rfu, .int .i64 rfs, .int .i64 rfh, .int .i64 rfa, .int .i64 rfn, .slice B2 ol.length c2])) (setRow_other _ _ _ _ (by have := MX.out.base; omega)))
                    have MA2 := Lib.hid (MA.out.heap (w' := (w20.setRow (w2.heap.size) #[.int .i64 rst, .int .i64 rsh, .int .i64 rsd, .int .i64 rsp, .int .i64 reu, .int .i64 res, .int .i64 reh, .int .i64 rea, .int .i64 ren, .int .i64 rfu, .int .i64 rfs, .int .i64 rfh, .int .i64 rfa, .int .i64 rfn, .slice B2 ol.length c2])) (setRow_other _ _ _ _ (by have := MA.out.base; omega)))
                    have BT2 := Lib.hid (BT.out.below (bs.mono (by omega)))
                    have K2 := Lib.hid (K.out.trans (bs.mono (by omega)))
                    have sR := bs.size
                    go_wp2_with (first | (refine wpList_load_row rfl 32 _ rfl (w2.heap.size) rfl 32 _ (0, 0) _ KS2.out Tryd.underlying32 rfl (by kernel_rfl) ?_) | (refine wpList_store_row rfl 32 _ _ rfl (w2.heap.size) #[.int .i64 rst, .int .i64 rsh, .int .i64 rsd, .int .i64 rsp, .int .i64 reu, .int .i64 res, .int .i64 reh, .int .i64 rea, .int .i64 ren, .int .i64 rfu, .int .i64 rfs, .int .i64 rfh, .int .i64 rfa, .int .i64 rfn, .slice B2 ol.length c2] rfl rfl 32 _ KS.out (by kernel_rfl) rfl (by simp [Value.oneCell']) ?_))
                    generalize (w20.setRow (w2.heap.size) #[.int .i64 rst, .int .i64 rsh, .int .i64 rsd, .int .i64 rsp, .int .i64 reu, .int .i64 res, .int .i64 reh, .int .i64 rea, .int .i64 ren, .int .i64 rfu, .int .i64 rfs, .int .i64 rfh, .int .i64 rfa, .int .i64 rfn, .slice B2 ol.length c2]) = S21 at KS2 L22 MX2 MA2 BT2 K2 sR ⊢
                    clear bs KS MX MA BT K L20
                    have KS := KS2
                    have MX := MX2
                    have MA := MA2
                    have BT := BT2
                    have K := K2
                    clear KS2 MX2 MA2 BT2 K2
                    have L2 := L22
                    clear L22
                    obtain ⟨lt, hlt2⟩ : ∃ o, ol.map Tx.WordV.t = o := ⟨_, rfl⟩
                    have hltl : lt.length ≤ 100 := by rw [← hlt2, List.length_map]; exact hol1
                    have hbeg : Tx.beginsB lt al = true := by
                      obtain ⟨q, hq, e⟩ := HRI2.out.begins
                      rw [hlt2, HAL.out] at e
                      rw [HAL.out] at hq
                      exact Tx.begins_take hq e
                    have hlo : Calls Tryd.prog 17 #[.agg #[.int .i64 rst, .int .i64 rsh, .int .i64 rsd, .int .i64 rsp, .int .i64 reu, .int .i64 res, .int .i64 reh, .int .i64 rea, .int .i64 ren, .int .i64 rfu, .int .i64 rfs, .int .i64 rfh, .int .i64 rfa, .int .i64 rfn, .slice B2 ol.length c2]] S21 fun e w'' => ∃ gb cb, e = .returned (.slice (some ⟨gb, 0, none⟩) lt.length cb) ∧ Tx.MadeE w'' S21.heap.size 9 lt gb cb ∧ Below S21.heap.size S21 w'' := by
                      have h1 := Tx.LogOf_impl ⟨rst, rsh, rsd, rsp, ⟨⟨reu, res, reh, rea⟩, ren⟩, ⟨⟨rfu, rfs, rfh, rfa⟩, rfn⟩⟩ B2 ol.length c2 ol S21 L2.out.elts (by omega)
                      rwa [hlt2] at h1
                    clear hlt2
                    refine (hlo).mono ?_
                    rintro e w22 ⟨gc, cc, rfl, mc2, b⟩
                    replace L2 := Lib.hid (L2.out.on b)
                    replace KS := Lib.hid (Tx.blk_on b KS.out)
                    replace MX := Lib.hid (MX.out.below b)
                    replace MA := Lib.hid (MA.out.below b)
                    replace BT := Lib.hid (BT.out.below (b.mono K.out.size))
                    replace K := Lib.hid (K.out.trans (b.mono K.out.size))
                    have sw22 := b.size
                    have MC := Lib.hid mc2
                    clear mc2 hlo
                    clear b
                    go_wp2_with fail
                    refine (Tx.Begins_spec _ _ lt.length al.length cc ca lt al w22 (Tx.MadeG.elts MC.out).strs (Tx.madeS_strs MA.out) (by omega) (by omega) MA.out.cap.1).mono ?_
                    rintro e w23 ⟨rfl, qq, rfl⟩
                    rw [hbeg]
                    have b : Below w22.heap.size w22 (w22.drewN qq) := ⟨rfl, rfl, rfl, Nat.le_refl _, fun _ _ => rfl⟩
                    replace L2 := Lib.hid (L2.out.on b)
                    replace KS := Lib.hid (Tx.blk_on b KS.out)
                    replace MX := Lib.hid (MX.out.below b)
                    replace MA := Lib.hid (MA.out.below b)
                    replace BT := Lib.hid (BT.out.below (b.mono K.out.size))
                    replace K := Lib.hid (K.out.trans (b.mono K.out.size))
                    replace MC := Lib.hid (MC.out.below b)
                    obtain ⟨w23, hw23⟩ : ∃ x, w22.drewN qq = x := ⟨_, rfl⟩
                    have s23 := b.size
                    rw [hw23] at s23 L2 KS MX MA BT K MC ⊢
                    clear b hw23 MC
                    go_wp2_with (refine Tx.wpList_load_wanted rfl 32 _ rfl (w2.heap.size) rfl 32 _ (0, 0) _ KS.out Tryd.underlying32 rfl (by kernel_rfl) ?_)
                    refine (Tx.SeatOk_spec ⟨rst, rsh, rsd, rsp, ⟨⟨reu, res, reh, rea⟩, ren⟩, ⟨⟨rfu, rfs, rfh, rfa⟩, rfn⟩⟩ B2 ol.length c2 _).mono ?_
                    rintro e w24 ⟨rfl, b⟩
                    replace L2 := Lib.hid (L2.out.on b)
                    replace KS := Lib.hid (Tx.blk_on b KS.out)
                    replace MX := Lib.hid (MX.out.below b)
                    replace MA := Lib.hid (MA.out.below b)
                    replace BT := Lib.hid (BT.out.below (b.mono K.out.size))
                    replace K := Lib.hid (K.out.trans (b.mono K.out.size))
                    have sw24 := b.size
                    clear b
                    have hok2 : Tx.seatOkB ⟨rst, rsh, rsd, rsp, ⟨⟨reu, res, reh, rea⟩, ren⟩, ⟨⟨rfu, rfs, rfh, rfa⟩, rfn⟩⟩ ol.length = true := HRI2.out.1
                    rw [hok2]
                    go_wp2
                    go_roundw
                    case rel => exact ⟨k + 1, ⟨rst, rsh, rsd, rsp, ⟨⟨reu, res, reh, rea⟩, ren⟩, ⟨⟨rfu, rfs, rfh, rfa⟩, rfn⟩⟩, B2, ol.length, c2, ol, by omega, by go_num, hol1, HRI2.out, fun j e => by have := hlL2 j e; omega, L2.out.mono (by omega), KS, MX, MA, BT, K, by omega⟩
                    case measure => simp [intOf]; omega
                · as_aux_lemma =>
                    have hkb : (kk == 0) = false := by rw [beq_eq_false_iff_ne]; exact hkz
                    go_upto_region 24 with fail
                    obtain ⟨⟨rst, rsh, rsd, rsp, ⟨⟨reu, res, reh, rea⟩, ren⟩, ⟨⟨rfu, rfs, rfh, rfa⟩, rfn⟩⟩, hr⟩ : ∃ o, Tx.hearS ⟨sst, ssh, ssd, ssp, ⟨⟨seu, ses, seh, sea⟩, sen⟩, ⟨⟨sfu, sfs, sfh, sfa⟩, sfn⟩⟩ m ⟨⟨xu, xs, xh, xa⟩, xn, xt, xp⟩ = o := ⟨_, rfl⟩
                    obtain ⟨y, hy⟩ : ∃ o, Tx.hearC ⟨sst, ssh, ssd, ssp, ⟨⟨seu, ses, seh, sea⟩, sen⟩, ⟨⟨sfu, sfs, sfh, sfa⟩, sfn⟩⟩ m ⟨⟨xu, xs, xh, xa⟩, xn, xt, xp⟩ = o := ⟨_, rfl⟩
                    obtain ⟨ol, hol⟩ : ∃ o, Tx.hearL ⟨sst, ssh, ssd, ssp, ⟨⟨seu, ses, seh, sea⟩, sen⟩, ⟨⟨sfu, sfs, sfh, sfa⟩, sfn⟩⟩ l ⟨⟨xu, xs, xh, xa⟩, xn, xt, xp⟩ = o := ⟨_, rfl⟩
                    have hol1 : ol.length ≤ 100 := by rw [← hol]; exact Tx.hearL_small 100 _ _ _ (by omega) (by omega)
                    have hRI2 : Tx.RoadI ⟨veu, ves, veh, vea⟩ ⟨vfu, vfs, vfh, vfa⟩ E W3 ⟨rst, rsh, rsd, rsp, ⟨⟨reu, res, reh, rea⟩, ren⟩, ⟨⟨rfu, rfs, rfh, rfa⟩, rfn⟩⟩ ol := by
                      have h1 := Tx.RoadI.step HKK.out hEnd.out hRI hRB.out
                      rw [hlm, hr, hol] at h1
                      exact h1
                    have hh : Calls Tryd.prog 15 #[.agg #[.int .i64 sst, .int .i64 ssh, .int .i64 ssd, .int .i64 ssp, .int .i64 seu, .int .i64 ses, .int .i64 seh, .int .i64 sea, .int .i64 sen, .int .i64 sfu, .int .i64 sfs, .int .i64 sfh, .int .i64 sfa, .int .i64 sfn, .slice B m mc], .agg #[.int .i64 xu, .int .i64 xs, .int .i64 xh, .int .i64 xa, .int .i64 xn, .string xt, .bool xp]] S17 fun e w' => ∃ (B : Option Addr) (c : Nat), e = .returned (.tuple #[.agg #[.int .i64 rst, .int .i64 rsh, .int .i64 rsd, .int .i64 rsp, .int .i64 reu, .int .i64 res, .int .i64 reh, .int .i64 rea, .int .i64 ren, .int .i64 rfu, .int .i64 rfs, .int .i64 rfh, .int .i64 rfa, .int .i64 rfn, .slice B ol.length c], .int .i64 y]) ∧ Tx.OutE w' S17.heap.size 69 B ol.length c ol ∧ Below S17.heap.size S17 w' := by
                      have h1 := Tx.Hears_impl ⟨sst, ssh, ssd, ssp, ⟨⟨seu, ses, seh, sea⟩, sen⟩, ⟨⟨sfu, sfs, sfh, sfa⟩, sfn⟩⟩ B m mc l ⟨⟨xu, xs, xh, xa⟩, xn, xt, xp⟩ S17 LG.out.elts hzc (by omega) (HTB.out.on K.out)
                      rw [hr, hy, hol] at h1
                      exact h1.mono fun e w' ⟨B, m2, c, he, ho, hb⟩ => by
                        have hm2 := ho.out.len
                        subst hm2
                        exact ⟨B, c, he, ho.out, hb⟩
                    have HRI2 := Lib.hid hRI2
                    clear hr hy hol hRI2 hRI
                    go_wp2_with (first | (refine wpList_load_row rfl 32 _ rfl (w2.heap.size) rfl 32 _ (0, 0) _ KS.out Tryd.underlying32 rfl (by kernel_rfl) ?_) | (refine wpList_load_row rfl 43 _ rfl (wr.heap.size) rfl 43 _ (0, 0) _ KB.out Tryd.underlying43 rfl (by kernel_rfl) ?_))
                    refine (hh).mono ?_
                    rintro e w20 ⟨B2, c2, rfl, ho, b⟩
                    replace LG := Lib.hid (LG.out.on b)
                    replace KS := Lib.hid (Tx.blk_on b KS.out)
                    replace MX := Lib.hid (MX.out.below b)
                    replace MA := Lib.hid (MA.out.below b)
                    replace BT := Lib.hid (BT.out.below (b.mono K.out.size))
                    replace K := Lib.hid (K.out.trans (b.mono K.out.size))
                    replace KB := Lib.hid (Tx.blk_on b KB.out)
                    have sw20 := b.size
                    have L20 := Lib.hid ho
                    have hlL2 := fun j (e : Tx.blkA B2 = some j) => ho.lt e
                    clear ho hh
                    clear b
                    clear LG KB
                    have bs : Below w2.heap.size w20 (w20.setRow (w2.heap.size) #[.int .i64 rst, .int .i64 rsh, .int .i64 rsd, .int .i64 rsp, .int .i64 reu, .int .i64 res, .int .i64 reh, .int .i64 rea, .int .i64 ren, .int .i64 rfu, .int .i64 rfs, .int .i64 rfh, .int .i64 rfa, .int .i64 rfn, .slice B2 ol.length c2]) := below_setRow (Below.refl _ _) (Nat.le_refl _) _
                    have KS2 : Hid ((w20.setRow (w2.heap.size) #[.int .i64 rst, .int .i64 rsh, .int .i64 rsd, .int .i64 rsp, .int .i64 reu, .int .i64 res, .int .i64 reh, .int .i64 rea, .int .i64 ren, .int .i64 rfu, .int .i64 rfs, .int .i64 rfh, .int .i64 rfa, .int .i64 rfn, .slice B2 ol.length c2]).heap[w2.heap.size]? = some (.cells #[.int .i64 rst, .int .i64 rsh, .int .i64 rsd, .int .i64 rsp, .int .i64 reu, .int .i64 res, .int .i64 reh, .int .i64 rea, .int .i64 ren, .int .i64 rfu, .int .i64 rfs, .int .i64 rfh, .int .i64 rfa, .int .i64 rfn, .slice B2 ol.length c2] 32)) := setRow_heap _ _ _ _ _ _ KS.out
                    have L22 : Hid (Tx.OutE (w20.setRow (w2.heap.size) #[.int .i64 rst, .int .i64 rsh, .int .i64 rsd, .int .i64 rsp, .int .i64 reu, .int .i64 res, .int .i64 reh, .int .i64 rea, .int .i64 ren, .int .i64 rfu, .int .i64 rfs, .int .i64 rfh, .int .i64 rfa, .int .i64 rfn, .slice B2 ol.length c2]) S17.heap.size 69 B2 ol.length c2 ol) := L20.out.heap (fun k e => setRow_other _ _ _ _ (by have := hlL2 k e; omega))
                    have MX2 := Lib.hid (MX.out.heap (w' := (w20.setRow (w2.heap.size) #[.int .i64 rst, .int .i64 rsh, .int .i64 rsd, .int .i64 rsp, .int .i64 reu, .int .i64 res, .int .i64 reh, .int .i64 rea, .int .i64 ren, .int .i64 rfu, .int .i64 rfs, .int .i64 rfh, .int .i64 rfa, .int .i64 rfn, .slice B2 ol.length c2])) (setRow_other _ _ _ _ (by have := MX.out.base; omega)))
                    have MA2 := Lib.hid (MA.out.heap (w' := (w20.setRow (w2.heap.size) #[.int .i64 rst, .int .i64 rsh, .int .i64 rsd, .int .i64 rsp, .int .i64 reu, .int .i64 res, .int .i64 reh, .int .i64 rea, .int .i64 ren, .int .i64 rfu, .int .i64 rfs, .int .i64 rfh, .int .i64 rfa, .int .i64 rfn, .slice B2 ol.length c2])) (setRow_other _ _ _ _ (by have := MA.out.base; omega)))
                    have BT2 := Lib.hid (BT.out.below (bs.mono (by omega)))
                    have K2 := Lib.hid (K.out.trans (bs.mono (by omega)))
                    have sR := bs.size
                    go_wp2_with (first | (refine wpList_load_row rfl 32 _ rfl (w2.heap.size) rfl 32 _ (0, 0) _ KS2.out Tryd.underlying32 rfl (by kernel_rfl) ?_) | (refine wpList_store_row rfl 32 _ _ rfl (w2.heap.size) #[.int .i64 rst, .int .i64 rsh, .int .i64 rsd, .int .i64 rsp, .int .i64 reu, .int .i64 res, .int .i64 reh, .int .i64 rea, .int .i64 ren, .int .i64 rfu, .int .i64 rfs, .int .i64 rfh, .int .i64 rfa, .int .i64 rfn, .slice B2 ol.length c2] rfl rfl 32 _ KS.out (by kernel_rfl) rfl (by simp [Value.oneCell']) ?_))
                    generalize (w20.setRow (w2.heap.size) #[.int .i64 rst, .int .i64 rsh, .int .i64 rsd, .int .i64 rsp, .int .i64 reu, .int .i64 res, .int .i64 reh, .int .i64 rea, .int .i64 ren, .int .i64 rfu, .int .i64 rfs, .int .i64 rfh, .int .i64 rfa, .int .i64 rfn, .slice B2 ol.length c2]) = S21 at KS2 L22 MX2 MA2 BT2 K2 sR ⊢
                    clear bs KS MX MA BT K L20
                    have KS := KS2
                    have MX := MX2
                    have MA := MA2
                    have BT := BT2
                    have K := K2
                    clear KS2 MX2 MA2 BT2 K2
                    have L2 := L22
                    clear L22
                    obtain ⟨lt, hlt2⟩ : ∃ o, ol.map Tx.WordV.t = o := ⟨_, rfl⟩
                    have hltl : lt.length ≤ 100 := by rw [← hlt2, List.length_map]; exact hol1
                    have hbeg : Tx.beginsB lt al = true := by
                      obtain ⟨q, hq, e⟩ := HRI2.out.begins
                      rw [hlt2, HAL.out] at e
                      rw [HAL.out] at hq
                      exact Tx.begins_take hq e
                    have hlo : Calls Tryd.prog 17 #[.agg #[.int .i64 rst, .int .i64 rsh, .int .i64 rsd, .int .i64 rsp, .int .i64 reu, .int .i64 res, .int .i64 reh, .int .i64 rea, .int .i64 ren, .int .i64 rfu, .int .i64 rfs, .int .i64 rfh, .int .i64 rfa, .int .i64 rfn, .slice B2 ol.length c2]] S21 fun e w'' => ∃ gb cb, e = .returned (.slice (some ⟨gb, 0, none⟩) lt.length cb) ∧ Tx.MadeE w'' S21.heap.size 9 lt gb cb ∧ Below S21.heap.size S21 w'' := by
                      have h1 := Tx.LogOf_impl ⟨rst, rsh, rsd, rsp, ⟨⟨reu, res, reh, rea⟩, ren⟩, ⟨⟨rfu, rfs, rfh, rfa⟩, rfn⟩⟩ B2 ol.length c2 ol S21 L2.out.elts (by omega)
                      rwa [hlt2] at h1
                    clear hlt2
                    refine (hlo).mono ?_
                    rintro e w22 ⟨gc, cc, rfl, mc2, b⟩
                    replace L2 := Lib.hid (L2.out.on b)
                    replace KS := Lib.hid (Tx.blk_on b KS.out)
                    replace MX := Lib.hid (MX.out.below b)
                    replace MA := Lib.hid (MA.out.below b)
                    replace BT := Lib.hid (BT.out.below (b.mono K.out.size))
                    replace K := Lib.hid (K.out.trans (b.mono K.out.size))
                    have sw22 := b.size
                    have MC := Lib.hid mc2
                    clear mc2 hlo
                    clear b
                    go_wp2_with fail
                    refine (Tx.Begins_spec _ _ lt.length al.length cc ca lt al w22 (Tx.MadeG.elts MC.out).strs (Tx.madeS_strs MA.out) (by omega) (by omega) MA.out.cap.1).mono ?_
                    rintro e w23 ⟨rfl, qq, rfl⟩
                    rw [hbeg]
                    have b : Below w22.heap.size w22 (w22.drewN qq) := ⟨rfl, rfl, rfl, Nat.le_refl _, fun _ _ => rfl⟩
                    replace L2 := Lib.hid (L2.out.on b)
                    replace KS := Lib.hid (Tx.blk_on b KS.out)
                    replace MX := Lib.hid (MX.out.below b)
                    replace MA := Lib.hid (MA.out.below b)
                    replace BT := Lib.hid (BT.out.below (b.mono K.out.size))
                    replace K := Lib.hid (K.out.trans (b.mono K.out.size))
                    replace MC := Lib.hid (MC.out.below b)
                    obtain ⟨w23, hw23⟩ : ∃ x, w22.drewN qq = x := ⟨_, rfl⟩
                    have s23 := b.size
                    rw [hw23] at s23 L2 KS MX MA BT K MC ⊢
                    clear b hw23 MC
                    go_wp2_with (refine Tx.wpList_load_wanted rfl 32 _ rfl (w2.heap.size) rfl 32 _ (0, 0) _ KS.out Tryd.underlying32 rfl (by kernel_rfl) ?_)
                    refine (Tx.SeatOk_spec ⟨rst, rsh, rsd, rsp, ⟨⟨reu, res, reh, rea⟩, ren⟩, ⟨⟨rfu, rfs, rfh, rfa⟩, rfn⟩⟩ B2 ol.length c2 _).mono ?_
                    rintro e w24 ⟨rfl, b⟩
                    replace L2 := Lib.hid (L2.out.on b)
                    replace KS := Lib.hid (Tx.blk_on b KS.out)
                    replace MX := Lib.hid (MX.out.below b)
                    replace MA := Lib.hid (MA.out.below b)
                    replace BT := Lib.hid (BT.out.below (b.mono K.out.size))
                    replace K := Lib.hid (K.out.trans (b.mono K.out.size))
                    have sw24 := b.size
                    clear b
                    have hok2 : Tx.seatOkB ⟨rst, rsh, rsd, rsp, ⟨⟨reu, res, reh, rea⟩, ren⟩, ⟨⟨rfu, rfs, rfh, rfa⟩, rfn⟩⟩ ol.length = true := HRI2.out.1
                    rw [hok2]
                    go_wp2
                    go_roundw
                    case rel => exact ⟨k + 1, ⟨rst, rsh, rsd, rsp, ⟨⟨reu, res, reh, rea⟩, ren⟩, ⟨⟨rfu, rfs, rfh, rfa⟩, rfn⟩⟩, B2, ol.length, c2, ol, by omega, by go_num, hol1, HRI2.out, fun j e => by have := hlL2 j e; omega, L2.out.mono (by omega), KS, MX, MA, BT, K, by omega⟩
                    case measure => simp [intOf]; omega
              · have hk30 : (k : Int) = 30 := by omega
                go_wp2
                go_loopw [21] (fun i wr => ∃ (k : Nat) (s : Tx.SeatV) (B : Option Addr) (m mc : Nat) (l : List Tx.WordV), (k : Int) ≤ (bx.length : Int) ∧ i = .int .i64 k ∧ m ≤ 100 ∧ Tx.RoadI ⟨veu, ves, veh, vea⟩ ⟨vfu, vfs, vfh, vfa⟩ E W3 s l ∧ (∀ j, Tx.blkA B = some j → j ≠ w2.heap.size) ∧ Hid (Tx.OutE wr w1.heap.size 69 B m mc l) ∧ Hid (wr.heap[w2.heap.size]? = some (.cells (s.cells B m mc).toArray 32)) ∧ Hid (Tx.MadeB wr w14.heap.size bx gx cx) ∧ Hid (Tx.MadeS wr w13.heap.size al ga ca) ∧ Hid (Tx.BytesAt wr w.heap.size A n) ∧ Hid (Below w.heap.size w wr) ∧ w15.heap.size ≤ wr.heap.size) (fun i _ => bx.length - (intOf i).toNat)
                case atStart => exact ⟨0, ⟨sst, ssh, ssd, ssp, ⟨⟨seu, ses, seh, sea⟩, sen⟩, ⟨⟨sfu, sfs, sfh, sfa⟩, sfn⟩⟩, B, m, mc, l, by omega, rfl, hm, hRI, hjk, LG, KS, MX, MA, BT, K, hsz⟩
                case round =>
                  clear hlt hk30 hk hm hlm hlLG hzc hsz hk0 sK
                  clear hRI hjk LG KS MX MA BT K
                  obtain ⟨k3, ⟨sst, ssh, ssd, ssp, ⟨⟨seu, ses, seh, sea⟩, sen⟩, ⟨⟨sfu, sfs, sfh, sfa⟩, sfn⟩⟩, B, m, mc, l, hk, rfl, hm, hRI, hjk, LG, KS', MX, MA, BT, K, hsz⟩ := hrel
                  have KS : Hid (wr.heap[w2.heap.size]? = some (.cells #[.int .i64 sst, .int .i64 ssh, .int .i64 ssd, .int .i64 ssp, .int .i64 seu, .int .i64 ses, .int .i64 seh, .int .i64 sea, .int .i64 sen, .int .i64 sfu, .int .i64 sfs, .int .i64 sfh, .int .i64 sfa, .int .i64 sfn, .slice B m mc] 32)) := KS'
                  clear KS'
                  have sK := K.out.size
                  have hk0 : (0 : Int) ≤ (k3 : Int) := by omega
                  have hlm : l.length = m := LG.out.len
                  have hzc : B = none → mc = 0 := fun e => by
                    rcases LG.out with ⟨_, _, h, _⟩ | ⟨g, h, _⟩
                    · exact h
                    · rw [h] at e; cases e
                  by_cases hlt : (k3 : Int) < (bx.length : Int)
                  · as_aux_lemma =>
                      have hkl : k3 < bx.length := by omega
                      obtain ⟨⟨⟨xu, xs, xh, xa⟩, xn, xt, xp⟩, hx⟩ : ∃ x, bx[k3]? = some x := ⟨_, List.getElem?_eq_getElem hkl⟩
                      have hRB := Lib.hid (HROAD.out _ (List.mem_of_getElem? hx))
                      go_wp2
                      refine Tx.wp_region_own (W := wr) [w2.heap.size] (fun w' => w'.heap[w2.heap.size]? = some (.cells #[.int .i64 sst, .int .i64 ssh, .int .i64 ssd, .int .i64 ssp, .int .i64 seu, .int .i64 ses, .int .i64 seh, .int .i64 sea, .int .i64 sen, .int .i64 sfu, .int .i64 sfs, .int .i64 sfh, .int .i64 sfa, .int .i64 sfn, .slice B m mc] 32)) (Tx.stays_blk (E := Tx.plainEnv wr [w2.heap.size]) (.inr (by simp)) _) KS.out [3, 0, 0, 0, 0, 1, 0, 0, 0, 3] (by kernel_rfl) (by kernel_rfl) (by kernel_rfl) ?_
                      have hmx := MX.out.base
                      have fb : ∀ q : Tx.In (Tx.plainEnv wr [w2.heap.size]), _ := fun q => Tx.box_cells (MX.out.heap (w' := q.w) (q.hc.block _ hmx.2 (by simp; omega))) hx
                      dsimp only at fb
                      refine Tx.wpO_read_row rfl 32 _ rfl (w2.heap.size) rfl 32 _ (0, 0) _ (Tx.stays_blk (E := Tx.plainEnv wr [w2.heap.size]) (.inr (by simp)) _) (fun w' hw hF => hF) Tryd.underlying32 rfl (by kernel_rfl) ?_
                      simp only [Act.put, List.setIfInBounds_toArray, List.set_cons_succ, List.set_cons_zero]
                      refine Tx.wpO_quiet 4 rfl (by kernel_rfl) ?_
                      simp only [List.take, List.drop]
                      repeat (go_big_quiet_step (fail))
                      refine wpQuiet_nil ?_
                      obtain ⟨⟨rst, rsh, rsd, rsp, ⟨⟨reu, res, reh, rea⟩, ren⟩, ⟨⟨rfu, rfs, rfh, rfa⟩, rfn⟩⟩, hr⟩ : ∃ o, Tx.hearS ⟨sst, ssh, ssd, ssp, ⟨⟨seu, ses, seh, sea⟩, sen⟩, ⟨⟨sfu, sfs, sfh, sfa⟩, sfn⟩⟩ m ⟨⟨xu, xs, xh, xa⟩, xn, xt, xp⟩ = o := ⟨_, rfl⟩
                      obtain ⟨y, hy⟩ : ∃ o, Tx.hearC ⟨sst, ssh, ssd, ssp, ⟨⟨seu, ses, seh, sea⟩, sen⟩, ⟨⟨sfu, sfs, sfh, sfa⟩, sfn⟩⟩ m ⟨⟨xu, xs, xh, xa⟩, xn, xt, xp⟩ = o := ⟨_, rfl⟩
                      obtain ⟨ol, hol⟩ : ∃ o, Tx.hearL ⟨sst, ssh, ssd, ssp, ⟨⟨seu, ses, seh, sea⟩, sen⟩, ⟨⟨sfu, sfs, sfh, sfa⟩, sfn⟩⟩ l ⟨⟨xu, xs, xh, xa⟩, xn, xt, xp⟩ = o := ⟨_, rfl⟩
                      have hol1 : ol.length ≤ 100 := by rw [← hol]; exact Tx.hearL_small 100 _ _ _ (by omega) (by omega)
                      have hRI2 : Tx.RoadI ⟨veu, ves, veh, vea⟩ ⟨vfu, vfs, vfh, vfa⟩ E W3 ⟨rst, rsh, rsd, rsp, ⟨⟨reu, res, reh, rea⟩, ren⟩, ⟨⟨rfu, rfs, rfh, rfa⟩, rfn⟩⟩ ol := by
                        have h1 := Tx.RoadI.step HKK.out hEnd.out hRI hRB.out
                        rw [hlm, hr, hol] at h1
                        exact h1
                      refine Tx.wpO_callx (f := 15) (args := #[.agg #[.int .i64 sst, .int .i64 ssh, .int .i64 ssd, .int .i64 ssp, .int .i64 seu, .int .i64 ses, .int .i64 seh, .int .i64 sea, .int .i64 sen, .int .i64 sfu, .int .i64 sfs, .int .i64 sfh, .int .i64 sfa, .int .i64 sfn, .slice B m mc], .agg #[.int .i64 xu, .int .i64 xs, .int .i64 xh, .int .i64 xa, .int .i64 xn, .string xt, .bool xp]]) (α := Option Addr × Nat) (fun z => .tuple #[.agg #[.int .i64 rst, .int .i64 rsh, .int .i64 rsd, .int .i64 rsp, .int .i64 reu, .int .i64 res, .int .i64 reh, .int .i64 rea, .int .i64 ren, .int .i64 rfu, .int .i64 rfs, .int .i64 rfh, .int .i64 rfa, .int .i64 rfn, .slice z.1 ol.length z.2], .int .i64 y]) (fun z => (Tx.blkA z.1).toList) (fun z w' => Tx.OutE w' wr.heap.size 69 z.1 ol.length z.2 ol) rfl (fun w' => by simp [go_sem]) (fun z w1 w2 hw h b => h.on b) (fun G => ⟨(none, 0), fun k hk => by cases hk⟩) (fun w' hw hF => ?_) (fun z hz => ?_)
                      · have h1 := Tx.Hears_impl ⟨sst, ssh, ssd, ssp, ⟨⟨seu, ses, seh, sea⟩, sen⟩, ⟨⟨sfu, sfs, sfh, sfa⟩, sfn⟩⟩ B m mc l ⟨⟨xu, xs, xh, xa⟩, xn, xt, xp⟩ w' ((LG.out.heap (fun j e => hw.block j (LG.out.lt e).2 (by have := hjk j e; simp; exact this))).elts) hzc (by omega) (HTB.out.on (K.out.trans (Tx.KeptBut.below hw (B := w.heap.size) (by omega) (by simp; omega))))
                        rw [hr, hy, hol] at h1
                        exact h1.mono fun e w'' ⟨B, m2, c, he, ho, b1⟩ => by
                          have hm2 := ho.out.len
                          subst hm2
                          exact ⟨(B, c), he, ho.out.mono hw.size, b1, fun k hk => by have := ho.out.lt (k := k) (by simpa using hk); exact this⟩
                      obtain ⟨B2, c2⟩ := z
                      have hB2 : ∀ k, Tx.blkA B2 = some k → wr.heap.size ≤ k := fun k e => (hz k (by simpa using e)).1
                      dsimp only
                      simp only [Act.put, List.setIfInBounds_toArray, List.set_cons_succ, List.set_cons_zero]
                      refine Tx.wpO_quiet 3 rfl (by kernel_rfl) ?_
                      simp only [List.take, List.drop]
                      repeat (go_big_quiet_step (fail))
                      refine wpQuiet_nil ?_
                      refine Tx.wpO_store (g := w2.heap.size) (t := 32) (old := #[.int .i64 sst, .int .i64 ssh, .int .i64 ssd, .int .i64 ssp, .int .i64 seu, .int .i64 ses, .int .i64 seh, .int .i64 sea, .int .i64 sen, .int .i64 sfu, .int .i64 sfs, .int .i64 sfh, .int .i64 sfa, .int .i64 sfn, .slice B m mc]) (fun w' => Tx.OutE w' wr.heap.size 69 B2 ol.length c2 ol) #[.int .i64 rst, .int .i64 rsh, .int .i64 rsd, .int .i64 rsp, .int .i64 reu, .int .i64 res, .int .i64 reh, .int .i64 rea, .int .i64 ren, .int .i64 rfu, .int .i64 rfs, .int .i64 rfh, .int .i64 rfa, .int .i64 rfn, .slice B2 ol.length c2] rfl rfl rfl rfl (.inr (by simp)) (by kernel_rfl) rfl rfl (fun w' h => ⟨h.2, h.1⟩) (fun w1 w2 hw h b => h.on b) (fun w1 w2 hw h => h.heap (fun k e => hw k (h.lt e).2 (by have := hB2 k e; omega))) ?_
                      simp only [Act.put]
                      refine Tx.wpO_nil ?_
                      rintro w26 b6 ⟨H5, H6⟩
                      have LG2 := Lib.hid H5
                      have KS2 := Lib.hid H6
                      have hKB : Hid (Below w2.heap.size wr w26) := Tx.KeptBut.below b6 (by omega) (by simp)
                      have s6 := b6.size
                      have hma := MA.out.base
                      have MX2 : Hid (Tx.MadeB w26 w14.heap.size bx gx cx) := MX.out.heap (b6.block _ hmx.2 (by simp; omega))
                      have MA2 : Hid (Tx.MadeS w26 w13.heap.size al ga ca) := MA.out.heap (b6.block _ hma.2 (by simp; omega))
                      clear b6 H5 H6 hr hy hol fb
                      go_wp2
                      go_roundw
                      case rel => exact ⟨k3 + 1, ⟨rst, rsh, rsd, rsp, ⟨⟨reu, res, reh, rea⟩, ren⟩, ⟨⟨rfu, rfs, rfh, rfa⟩, rfn⟩⟩, B2, ol.length, c2, ol, by omega, by go_num, hol1, hRI2, fun j e => by have := hB2 j e; omega, LG2.out.mono (by omega), KS2, MX2, MA2, BT.out.below (hKB.out.mono (by omega)), K.out.trans (hKB.out.mono (by omega)), by omega⟩
                      case measure => simp [intOf]; omega
                  · as_aux_lemma =>
                      have hk9 : ¬ (k3 : Int) < (bx.length : Int) := hlt
                      obtain ⟨lt, hlt2⟩ : ∃ o, l.map Tx.WordV.t = o := ⟨_, rfl⟩
                      have hltl : lt.length ≤ 100 := by rw [← hlt2, List.length_map]; omega
                      have hbeg : Tx.beginsB lt al = true := by
                        obtain ⟨q, hq, e⟩ := hRI.begins
                        rw [hlt2, HAL.out] at e
                        rw [HAL.out] at hq
                        exact Tx.begins_take hq e
                      have hlo : Calls Tryd.prog 17 #[.agg #[.int .i64 sst, .int .i64 ssh, .int .i64 ssd, .int .i64 ssp, .int .i64 seu, .int .i64 ses, .int .i64 seh, .int .i64 sea, .int .i64 sen, .int .i64 sfu, .int .i64 sfs, .int .i64 sfh, .int .i64 sfa, .int .i64 sfn, .slice B m mc]] wr fun e w'' => ∃ gb cb, e = .returned (.slice (some ⟨gb, 0, none⟩) lt.length cb) ∧ Tx.MadeE w'' wr.heap.size 9 lt gb cb ∧ Below wr.heap.size wr w'' := by
                        have h1 := Tx.LogOf_impl ⟨sst, ssh, ssd, ssp, ⟨⟨seu, ses, seh, sea⟩, sen⟩, ⟨⟨sfu, sfs, sfh, sfa⟩, sfn⟩⟩ B m mc l wr LG.out.elts (by omega)
                        rwa [hlt2] at h1
                      clear hlt2
                      go_wp2_with (refine wpList_load_row rfl 32 _ rfl (w2.heap.size) rfl 32 _ (0, 0) _ KS.out Tryd.underlying32 rfl (by kernel_rfl) ?_)
                      refine (hlo).mono ?_
                      rintro e w27 ⟨gc, cc, rfl, mc2, b⟩
                      replace LG := Lib.hid (LG.out.on b)
                      replace KS := Lib.hid (Tx.blk_on b KS.out)
                      replace MX := Lib.hid (MX.out.below b)
                      replace MA := Lib.hid (MA.out.below b)
                      replace BT := Lib.hid (BT.out.below (b.mono K.out.size))
                      replace K := Lib.hid (K.out.trans (b.mono K.out.size))
                      have sw27 := b.size
                      have MC := Lib.hid mc2
                      clear mc2 hlo
                      clear b
                      go_wp2_with fail
                      refine (Tx.Begins_spec _ _ lt.length al.length cc ca lt al w27 (Tx.MadeG.elts MC.out).strs (Tx.madeS_strs MA.out) (by omega) (by omega) MA.out.cap.1).mono ?_
                      rintro e w28 ⟨rfl, qq, rfl⟩
                      rw [hbeg]
                      go_wp2
                      go_ret
                      exact ⟨rfl, K.out.trans ⟨rfl, rfl, rfl, Nat.le_refl _, fun _ _ => rfl⟩⟩

theorem door_met (os : Os) (args : Array Value) : laidMetH Tryd.prog Rows.fnRoadRow.laid ((Tx.doorWorld os).forCall (fun _ _ => 0) ⟨#[], args, []⟩).memory := by
  rw [MakeChecks.laidMetH_plain _ _ _ (by kernel_rfl)]
  exact laidMet_of_run' 8 (by kernel_rfl) (by kernel_rfl)
theorem tab {W : World} (h : laidMetH Tryd.prog Rows.fnRoadRow.laid W) : Tx.Tab W := by
  rw [MakeChecks.laidMetH_plain _ _ _ (by kernel_rfl)] at h
  exact Tx.tab_of (laidMet.tail (laidMet.tail h))

theorem own : ownKnob Tryd.prog.godebug = none := by kernel_rfl
theorem laidOut : laidOutB Tryd.prog = true := by kernel_rfl

set_option maxRecDepth 100000 in
theorem lifted (os : Os) (started : os.Started) (H : Type) (enc : TypeId × Value → H) :
    ReturnsInHanded {} Tryd.checked os 3 .any (fun w args => (Rows.fnRoadSpec.pre enc Tryd.prog Tryd.f3 [] false w args ∧ laidMetH Tryd.prog Rows.fnRoadRow.laid w) ∧ sizedMet enc Tryd.prog Tryd.f3 (OpenSpec.ofChange Rows.fnRoadSpec) false w args)
      (Rows.fnRoadSpec.post enc Tryd.prog Tryd.f3 false true false false) := by
  refine returnsInHanded_of_change_and (C := Tryd.checked) (X := fun w _ => laidMetH Tryd.prog Rows.fnRoadRow.laid w) (fun _ _ _ hh h => h.of_heap hh) own started (by kernel_rfl) Tryd.func3
    (ChangeSpec.witness_shaped (enc := enc) (C := Tryd.checked) (os := os) (X := fun w _ => laidMetH Tryd.prog Rows.fnRoadRow.laid w) false (Tx.doorWorld os) #[.slice none 0 0] 8 rfl (Tx.door_shaped os _) (by kernel_rfl) (by kernel_rfl) (by kernel_rfl) (door_met os _)) ?_
  intro W base args ds gs before hval0 hW _ _ hL hsh
  have hval : ∀ (j : Nat) t v, Tryd.f3.params[j]? = some t → args[j]? = some v → Value.okWide Tryd.prog W .any base t v := hval0
  have hW' := hW
  obtain ⟨p, q, hA0, hV, rfl, hfz, hnd⟩ := hW
  have hA : DataW.TrodAll enc Tryd.prog W 0 (fun _ => true) true Tryd.f3.params.toList args.toList ds p := hA0
  rw [Tryd.params3] at hA hval
  obtain ⟨v0, vs0, d0, ds0, p0, q0, hargs, rfl, rfl, h0, r0⟩ := trodAll_cons hA
  obtain ⟨rfl, rfl, rfl⟩ := trodAll_nil r0
  obtain rfl : args = #[v0] := by cases args; simp_all
  obtain ⟨rfl, rfl⟩ := trodVars_none hV
  have k0 := h0
  have lt0 : ∀ x ∈ p0, x.block < W.heap.size := by obtain ⟨m, hm⟩ := k0; exact DataW.trod_lt m _ _ _ hm
  obtain ⟨a0, len0, cap0, rfl⟩ := okWide_slice Tryd.underlying22 (hval 0 22 v0 rfl rfl)
  have w0 : Tx.BytesAt W W.heap.size a0 len0 ∧ len0 ≤ maxLen := by
    obtain ⟨fuel, hf⟩ := h0
    rcases open_ints Tryd.underlying22 Tryd.underlying5 (by kernel_rfl) hf with ⟨hcs, _⟩ | ⟨x, l, c, zs, hcs, _, hl, hm, hz, _, hcell, hwz⟩
    · simp [Value.cells] at hcs
      obtain ⟨rfl, rfl, rfl⟩ := hcs
      exact ⟨fun h => absurd h (by omega), by unfold maxLen; omega⟩
    · simp [Value.cells] at hcs
      obtain ⟨rfl, rfl, rfl⟩ := hcs
      simp only [if_true] at hz
      exact ⟨Tx.bytesAt_of_ints (by omega) hcell fun n hn => bounds_u8 (hwz n hn), by omega⟩
  clear hA0 hval0
  refine (walk W a0 len0 cap0 w0.1 w0.2 (tab hL)).mono fun e W' ⟨he, bel⟩ => ?_
  subst he
  exact ⟨_, rfl, _, _, _, [], _, [], hW', trodAll_mk1 (shut_bool Tryd.underlying4 _), (trodAll_cons_mk (Below.trod laidOut (by kernel_rfl) (of_decide_eq_true (by kernel_rfl)) k0 bel lt0) trodAll_mk0), rfl, bel.frame _, fun h => by cases h⟩

theorem over : Rows.fnRoadRow.holds Tryd.pinned (OpenSpec.ofChange Rows.fnRoadSpec) :=
  OpenClaim.holds_of_wide 3 Tryd.f3 rfl rfl rfl rfl rfl rfl rfl ⟨rfl, rfl, rfl, rfl, rfl⟩ rfl rfl rfl rfl rfl (by kernel_rfl) Tryd.func3 (by kernel_rfl)
    (of_decide_eq_true (by kernel_rfl)) (by unfold Func.isWrapper; first | (rw [if_pos (by decide +kernel)]; kernel_rfl) | (rw [if_neg (by decide +kernel)]; exact ⟨rfl, rfl⟩))
    (fun os started H enc _ => lifted os started H enc)

end Go.Proofs.YtchdmmlkgglmcaaDoor.fnRoad

namespace Go.Proofs.YtchdmmlkgglmcaaDoor
theorem fnRoad_proved : Rows.FnRoadCardSaid :=
  Claim7.holds_tied_plain_at .later [] Rows.fnRoadCard.laidKinds true Rows.fnRoadCard.stood.harness true
    fnRoad.over (fun _ h => by cases h) (by kernel_rfl) (fun _ h => by cases h) fnRoad_row_tie rfl ⟨rfl, rfl⟩ (by kernel_rfl) rfl
    (fun f fn hf hfn => by
      obtain rfl : f = 3 := Option.some.inj ((show Tryd.prog.funcNamed Rows.fnRoadRow.func = some 3 by kernel_rfl).symm.trans hf) |>.symm
      obtain rfl : fn = Tryd.f3 := (Option.some.inj (Tryd.func3.symm.trans hfn)).symm
      exact ⟨by kernel_rfl, fun j t ht => by
        rw [Tryd.params3] at ht
        have hm : t ∈ [22] := by simpa using Array.mem_of_getElem? ht
        have hall : ([22].all fun u => !Tryd.prog.wantsStandIn u) = true := by kernel_rfl
        exact (show Tryd.prog.wantsStandIn t = false by simpa using List.all_eq_true.1 hall t hm)⟩)
    (by kernel_rfl)
#print axioms fnRoad_proved
end Go.Proofs.YtchdmmlkgglmcaaDoor

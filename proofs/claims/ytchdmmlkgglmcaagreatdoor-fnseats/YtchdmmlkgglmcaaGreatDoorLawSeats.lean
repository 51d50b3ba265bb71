/-
  What likeSeat of the laws says of two seats that read alike. Condition: at most 1048576 words.
  Strings that a call made, as the laws' helpers take them. No conditions.
  Plain facts on what a seat hears: what is taken, what stays, that it stays right. No conditions.
  The law FnSeats returns true at every code, and the code reads behind the call as it read before: a seat hears early words, then the end with just as many, then all others, in order, none twice; the program and the model answer alike. Conditions: those that the card itself names (the listed variables of the library hold what its text lays in them).
-/
import Derived.Test.YtchdmmlkgglmcaaGreatDoorSeat3
import Derived.Test.YtchdmmlkgglmcaaGreatDoorRegionL
import Derived.Test.YtchdmmlkgglmcaaGreatDoorSeat6
import Derived.Test.YtchdmmlkgglmcaaGreatDoorSeat4
import Derived.Test.YtchdmmlkgglmcaaGreatDoorHears
import Derived.Test.YtchdmmlkgglmcaaGreatDoorRowAll
import Derived.Test.YtchdmmlkgglmcaaGreatDoorRows
import Derived.WalkKit
import Derived.ProofKit
import Derived.OpenShut
import Derived.ShutString
import Derived.ChangeOld
import Derived.Below
import Derived.SliceStrings
import Derived.Lib.SmallJoins
import Derived.Test.YtchdmmlkgglmcaaGreatDoorCards
import Derived.Test.YtchdmmlkgglmcaaGreatDoorTie
import Derived.LaidMore
import Derived.Stop.Joined
import Derived.SevenTiedAt
import Derived.Test.YtchdmmlkgglmcaaGreatDoorDraw14d
import Derived.Test.YtchdmmlkgglmcaaGreatDoorImpl14b
import Derived.Test.YtchdmmlkgglmcaaGreatDoorLaid
import Derived.Deep.DeepCutAuto
namespace Go.Proofs.YtchdmmlkgglmcaaGreatDoor.Tx
open Go.RowKit

theorem eq_row_self (u s h a n : Int) (w : World) : (Op.equalIn 10000 27 (.agg #[.int .i64 u, .int .i64 s, .int .i64 h, .int .i64 a, .int .i64 n]) (.agg #[.int .i64 u, .int .i64 s, .int .i64 h, .int .i64 a, .int .i64 n])).run Tryz.prog w = .ok true w := by
  simp [go_sem]
theorem eq_word_self (t : ByteArray) (e : Bool) (w : World) : (Op.equalIn 10000 49 (.agg #[.string t, .bool e]) (.agg #[.string t, .bool e])).run Tryz.prog w = .ok true w := by
  simp [go_sem]
set_option maxRecDepth 100000 in
set_option maxHeartbeats 8000000 in
theorem likeSeat_same (s : SeatV) (A B : Option Addr) (n ca cb : Nat) (l : List WordV) (w : World) (hA' : EltsO w w.heap.size A n l) (hB' : EltsO w w.heap.size B n l) (hn : n ≤ 1048576) :
    Calls Tryz.prog 11 #[s.val A n ca, s.val B n cb] w fun e w' => e = .returned (.bool true) ∧ Below w.heap.size w w' := by
  obtain ⟨st, sh, sd, sp, ⟨⟨eu, es, eh, ea⟩, en⟩, ⟨⟨fu, fs, fh, fa⟩, fn⟩⟩ := s
  have HV1 : Hid (SeatV.val ⟨st, sh, sd, sp, ⟨⟨eu, es, eh, ea⟩, en⟩, ⟨⟨fu, fs, fh, fa⟩, fn⟩⟩ A n ca = .agg #[.int .i64 st, .int .i64 sh, .int .i64 sd, .int .i64 sp, .int .i64 eu, .int .i64 es, .int .i64 eh, .int .i64 ea, .int .i64 en, .int .i64 fu, .int .i64 fs, .int .i64 fh, .int .i64 fa, .int .i64 fn, .slice A n ca]) := rfl
  have HV2 : Hid (SeatV.val ⟨st, sh, sd, sp, ⟨⟨eu, es, eh, ea⟩, en⟩, ⟨⟨fu, fs, fh, fa⟩, fn⟩⟩ B n cb = .agg #[.int .i64 st, .int .i64 sh, .int .i64 sd, .int .i64 sp, .int .i64 eu, .int .i64 es, .int .i64 eh, .int .i64 ea, .int .i64 en, .int .i64 fu, .int .i64 fs, .int .i64 fh, .int .i64 fa, .int .i64 fn, .slice B n cb]) := rfl
  rw [HV1.out, HV2.out]
  clear HV1 HV2
  obtain ⟨W0, hW0⟩ : ∃ W, (w.alloc (.cells #[.int .i64 st, .int .i64 sh, .int .i64 sd, .int .i64 sp, .int .i64 eu, .int .i64 es, .int .i64 eh, .int .i64 ea, .int .i64 en, .int .i64 fu, .int .i64 fs, .int .i64 fh, .int .i64 fa, .int .i64 fn, .slice A n ca] 30)).alloc (.cells #[.int .i64 st, .int .i64 sh, .int .i64 sd, .int .i64 sp, .int .i64 eu, .int .i64 es, .int .i64 eh, .int .i64 ea, .int .i64 en, .int .i64 fu, .int .i64 fs, .int .i64 fh, .int .i64 fa, .int .i64 fn, .slice B n cb] 30) = W := ⟨_, rfl⟩
  have K0 : Hid (Below w.heap.size w W0) := by rw [← hW0]; exact ((Below.refl _ w).alloc (Nat.le_refl _) _).alloc (by simp; try omega) _
  have P0 : Hid (W0.heap[w.heap.size]? = some (.cells #[.int .i64 st, .int .i64 sh, .int .i64 sd, .int .i64 sp, .int .i64 eu, .int .i64 es, .int .i64 eh, .int .i64 ea, .int .i64 en, .int .i64 fu, .int .i64 fs, .int .i64 fh, .int .i64 fa, .int .i64 fn, .slice A n ca] 30)) := by rw [← hW0]; exact heap2a w _ _
  have Q0 : Hid (W0.heap[w.heap.size + 1]? = some (.cells #[.int .i64 st, .int .i64 sh, .int .i64 sd, .int .i64 sp, .int .i64 eu, .int .i64 es, .int .i64 eh, .int .i64 ea, .int .i64 en, .int .i64 fu, .int .i64 fs, .int .i64 fh, .int .i64 fa, .int .i64 fn, .slice B n cb] 30)) := by rw [← hW0]; exact heap2b w _ _
  have hA := Lib.hid (hA'.below K0.out)
  have hB := Lib.hid (hB'.below K0.out)
  have HL := Lib.hid hA'.1
  clear hA' hB'
  have sW0 : W0.heap.size = w.heap.size + 2 := by rw [← hW0]; simp
  obtain ⟨⟨a0, a1, a2, a3, a4, a5, a6, a7, a8, a9, a10, a11, a12, a13, a14⟩, _⟩ := blk15 P0.out
  obtain ⟨⟨b0, b1, b2, b3, b4, b5, b6, b7, b8, b9, b10, b11, b12, b13, b14⟩, _⟩ := blk15 Q0.out
  have he := fun w' => eq_row_self eu es eh ea en w'
  have hf := fun w' => eq_row_self fu fs fh fa fn w'
  go_enter Tryz.func11, Tryz.ntmps11
  go_wp2_with fail
  clear a0 a1 a2 a3 a4 a5 a6 a7 a8 a9 a10 a11 a12 a13 a14
  clear b0 b1 b2 b3 b4 b5 b6 b7 b8 b9 b10 b11 b12 b13 b14
  clear hW0 he hf
  go_loopw [5] (fun i wr => ∃ k : Nat, k ≤ n ∧ i = .int .i64 k ∧ Hid (Below W0.heap.size W0 wr)) (fun i _ => n - (intOf i).toNat)
  case atStart => exact ⟨0, Nat.zero_le _, rfl, Below.refl _ _⟩
  case round =>
    obtain ⟨k, hk, rfl, hW⟩ := hrel
    obtain ⟨⟨c0, c1, c2, c3, c4, c5, c6, c7, c8, c9, c10, c11, c12, c13, c14⟩, _⟩ := blk15 ((hW.out.block _ (blk_in P0.out)).trans P0.out)
    by_cases hlt : k < n
    · obtain ⟨b, off, rfl, hb, hc⟩ := hA.out.2 (by omega)
      obtain ⟨b', off', rfl, hb', hc'⟩ := hB.out.2 (by omega)
      obtain ⟨⟨xt, xe⟩, hx⟩ : ∃ x, l[k]? = some x := ⟨_, List.getElem?_eq_getElem (by rw [HL.out]; exact hlt)⟩
      have g1 : At W0 b (off + k * 2) _ := hc k _ hx
      have g2 : At W0 b' (off' + k * 2) _ := hc' k _ hx
      have f1 : ∀ q : Later W0, _ := fun q => word_at (g1.heap (q.bel.block b (by omega)))
      have f2 : ∀ q : Later W0, _ := fun q => word_at (g2.heap (q.bel.block b' (by omega)))
      have f3 : ∀ q : Later W0, _ := fun q => (blk15 ((q.bel.block _ (blk_in P0.out)).trans P0.out)).1
      have f4 : ∀ q : Later W0, _ := fun q => (blk15 ((q.bel.block _ (blk_in Q0.out)).trans Q0.out)).1
      dsimp only at f1 f2
      clear hx hc hc' g1 g2
      have hk0 : (0 : Int) ≤ (k : Int) := by omega
      have hkn : (k : Int) < (n : Int) := by omega
      have hq := fun w' => eq_word_self xt xe w'
      go_wp2
      clear c0 c1 c2 c3 c4 c5 c6 c7 c8 c9 c10 c11 c12 c13 c14
      refine wp_region_later (W := W0) hW.out (by kernel_rfl) (by kernel_rfl) ?_
      repeat (go_big_quiet_step (fail))
      refine wpQuiet_nil ?_
      rintro _ ⟨⟨w', hw'⟩, rfl⟩
      have Hw' := Lib.hid hw'
      clear hw' f1 f2 f3 f4 hq
      go_wp2
      go_roundw
      case rel => exact ⟨k + 1, by omega, by go_num, Hw'.out⟩
      case measure => simp [intOf]; omega
    · obtain rfl : k = n := by omega
      have hlt' : ¬ (k : Int) < (k : Int) := by omega
      go_wp2
      go_ret
      exact ⟨rfl, K0.out.trans (hW.out.mono K0.out.size)⟩

end Go.Proofs.YtchdmmlkgglmcaaGreatDoor.Tx
namespace Go.Proofs.YtchdmmlkgglmcaaGreatDoor.Tx
open Go.RowKit

theorem EltsO.strs {w : World} {B n : Nat} {A : Option Addr} {ss : List ByteArray} (h : EltsO w B A n ss) : Strs w B A n ss := ⟨h.1, fun hn => by
  obtain ⟨b, off, e, hb, hc⟩ := h.2 hn
  refine ⟨b, off, e, hb, fun j hj => ?_⟩
  have hj' : j < ss.length := by rw [h.1]; exact hj
  have h1 := hc j ss[j] (List.getElem?_eq_getElem hj') 0 _ rfl
  rw [List.getElem?_eq_getElem hj', Option.getD_some]
  simpa [Cells.sz] using h1⟩
end Go.Proofs.YtchdmmlkgglmcaaGreatDoor.Tx
namespace Go.Proofs.YtchdmmlkgglmcaaGreatDoor.Tx

theorem take_key {r : RowV} {b : BoxV} (h : takeB r b = true) : b.k = r.k := by
  simp only [takeB, openB, Bool.and_eq_true] at h
  exact KeyV.same_iff.1 h.2.1.2.2.1
theorem take_no {r : RowV} {b : BoxV} (h : takeB r b = true) : b.no = r.no ∧ b.sp = false := by
  simp only [takeB, openB, Bool.and_eq_true] at h
  refine ⟨by simpa using h.2.1.2.2.2, by simpa using h.2.1.2.1⟩
theorem take_row {r : RowV} {b : BoxV} (h : takeB r b = true) : rowOkB r = true := by
  simp only [takeB, Bool.and_eq_true] at h
  exact h.1
theorem take_on {r : RowV} {b : BoxV} (h : takeB r b = true) : rowOkB (takeR r b) = true ∧ (takeR r b).k = r.k ∧ (takeR r b).no = r.no + 1 := by
  rw [(take_true h).1]
  exact ⟨rowOk_on (take_row h) (take_true h).2.2, rfl, rfl⟩
theorem row_zero : rowOkB .zero = true ∧ RowV.zero.isZ = true := by constructor <;> decide
/-- The ways in which a seat hears. -/
theorem hear_ways (s : SeatV) (l : List WordV) (b : BoxV) (h : seatOkB s l.length = true) :
    (hearC s l.length b = 0 ∧ hearS s l.length b = s ∧ hearL s l b = l) ∨
    (hearC s l.length b = 1 ∧ s.st = 1 ∧ takeB s.e b = true ∧ l.length < 60 ∧ hearS s l.length b = { s with e := takeR s.e b } ∧ hearL s l b = l ++ [⟨b.t, true⟩]) ∨
    (hearC s l.length b = 2 ∧ s.st = 1 ∧ takeB s.e b = false ∧ takeB s.f b = true ∧ isEnd b.t l.length = true ∧ hearS s l.length b = { s with st := 2, e := .zero, f := takeR s.f b } ∧ hearL s l b = l) ∨
    (hearC s l.length b = 3 ∧ s.st = 2 ∧ takeB s.f b = true ∧ l.length < 60 ∧ hearS s l.length b = { s with f := takeR s.f b } ∧ hearL s l b = l ++ [⟨b.t, false⟩]) := by
  have hst : s.st = 1 ∨ s.st = 2 := by
    have h' := h
    simp only [seatOkB, Bool.and_eq_true, Bool.or_eq_true, beq_iff_eq] at h'
    exact h'.1
  have z : hearC s l.length b = 0 → hearS s l.length b = s ∧ hearL s l b = l := fun c => ⟨by rw [hearS, if_pos h, c]; rfl, by rw [hearL, if_pos h, c]; rfl⟩
  rcases hst with h1 | h2
  · cases he : takeB s.e b with
    | true =>
      by_cases hr : l.length < 60
      · have c : hearC s l.length b = 1 := by rw [hearC, if_pos h, if_pos h1, if_pos he, if_pos hr]
        exact .inr (.inl ⟨c, h1, rfl, hr, by rw [hearS, if_pos h, if_pos c], by rw [hearL, if_pos h, if_pos c, (take_true he).2.1]⟩)
      · have c : hearC s l.length b = 0 := by rw [hearC, if_pos h, if_pos h1, if_pos he, if_neg hr]
        exact .inl ⟨c, z c⟩
    | false =>
      cases hf : takeB s.f b with
      | true =>
        cases hi : isEnd b.t l.length with
        | true =>
          have c : hearC s l.length b = 2 := by rw [hearC, if_pos h, if_pos h1, he, hf, (take_true hf).2.1, hi]; rfl
          exact .inr (.inr (.inl ⟨c, h1, rfl, rfl, rfl, by rw [hearS, if_pos h, c]; rfl, by rw [hearL, if_pos h, c]; rfl⟩))
        | false =>
          have c : hearC s l.length b = 0 := by rw [hearC, if_pos h, if_pos h1, he, hf, (take_true hf).2.1, hi]; rfl
          exact .inl ⟨c, z c⟩
      | false =>
        have c : hearC s l.length b = 0 := by rw [hearC, if_pos h, if_pos h1, he, hf]; rfl
        exact .inl ⟨c, z c⟩
  · have h1 : s.st ≠ 1 := by omega
    cases hf : takeB s.f b with
    | true =>
      by_cases hr : l.length < 60
      · have c : hearC s l.length b = 3 := by rw [hearC, if_pos h, if_neg h1, hf, decide_eq_true hr]; rfl
        exact .inr (.inr (.inr ⟨c, h2, rfl, hr, by rw [hearS, if_pos h, c]; rfl, by rw [hearL, if_pos h, c, (take_true hf).2.1]; rfl⟩))
      · have c : hearC s l.length b = 0 := by rw [hearC, if_pos h, if_neg h1, hf, decide_eq_false hr]; rfl
        exact .inl ⟨c, z c⟩
    | false =>
      have c : hearC s l.length b = 0 := by rw [hearC, if_pos h, if_neg h1, hf]; rfl
      exact .inl ⟨c, z c⟩
theorem hear_bad {s : SeatV} {n : Nat} (b : BoxV) (h : seatOkB s n = false) : hearC s n b = 0 := by rw [hearC, h]; rfl
/-- What is heard goes by the key of one of its rows. -/
theorem hear_key {s : SeatV} {l : List WordV} {b : BoxV} (h : hearC s l.length b ≠ 0) : b.k = s.f.k ∨ b.k = s.e.k := by
  cases ok : seatOkB s l.length with
  | false => exact absurd (hear_bad b ok) h
  | true =>
    rcases hear_ways s l b ok with ⟨c, _⟩ | ⟨_, _, t, _⟩ | ⟨_, _, _, t, _⟩ | ⟨_, _, t, _⟩
    · exact absurd c h
    · exact .inr (take_key t)
    · exact .inl (take_key t)
    · exact .inl (take_key t)
theorem early_snoc (l : List WordV) (q : WordV) : earlyN (l ++ [q]) = earlyN l + (if q.e then 1 else 0) := by
  rw [earlyN, List.countP_append, earlyN]
  cases h : q.e <;> simp [h]
theorem seatOk_parts (s : SeatV) (n : Nat) : seatOkB s n = true ↔ ((s.st == 1 || s.st == 2) = true ∧ isDrawB s.h = true ∧ isDrawB s.d = true ∧ inB s.p 1 3 = true ∧ rowOkB s.e = true ∧ rowOkB s.f = true ∧ decide (n ≤ 60) = true ∧
    (!s.f.k.same .zero) = true ∧ s.f.k.same (forthK s.f.k.s s.h s.d) = true ∧ ((s.f.k.s == 0) == (s.p == 1)) = true ∧ (if (s.st == 1 && s.p == 3) = true then s.e.k.same (earlyK s.f.k.s s.h) else s.e.isZ) = true) := by
  unfold seatOkB
  rw [Bool.and_eq_true, Bool.and_eq_true, Bool.and_eq_true, Bool.and_eq_true, Bool.and_eq_true, Bool.and_eq_true, Bool.and_eq_true, Bool.and_eq_true, Bool.and_eq_true, Bool.and_eq_true]
/-- It stays right. -/
theorem hear_right (s : SeatV) (l : List WordV) (b : BoxV) (h : seatOkB s l.length = true) : seatOkB (hearS s l.length b) (hearL s l b).length = true := by
  obtain ⟨h0, h1, h2, h3, h4, h5, h6', h7, h8, h9, h10⟩ := (seatOk_parts _ _).1 h
  have h6 := of_decide_eq_true h6'
  refine (seatOk_parts _ _).2 ?_
  rcases hear_ways s l b h with ⟨_, e1, e2⟩ | ⟨_, st, t, r, e1, e2⟩ | ⟨_, st, t0, t, _, e1, e2⟩ | ⟨_, st, t, r, e1, e2⟩
  · rw [e1, e2]; exact (seatOk_parts _ _).1 h
  · rw [e1, e2]
    obtain ⟨o1, o2, o3⟩ := take_on t
    by_cases hc : (s.st == 1 && s.p == 3) = true
    · rw [if_pos hc] at h10
      refine ⟨h0, h1, h2, h3, o1, h5, decide_eq_true (by simp; omega), h7, h8, h9, ?_⟩
      rw [if_pos hc]
      show (takeR s.e b).k.same (earlyK s.f.k.s s.h) = true
      rw [o2]
      exact h10
    · rw [if_neg hc] at h10
      exfalso
      have hz : s.e.k = .zero := by
        simp only [RowV.isZ, Bool.and_eq_true, beq_iff_eq] at h10
        obtain ⟨a1, a2, a3, a4, _⟩ := h10
        generalize s.e.k = k at a1 a2 a3 a4 ⊢
        obtain ⟨u, x, y, z⟩ := k
        dsimp only at a1 a2 a3 a4
        subst a1 a2 a3 a4
        rfl
      have := (take_true t).2.2
      simp only [goesB, Bool.and_eq_true] at this
      rw [hz, KeyV.same_self] at this
      exact absurd this.1 (by simp)
  · rw [e1, e2]
    obtain ⟨o1, o2, o3⟩ := take_on t
    refine ⟨rfl, h1, h2, h3, row_zero.1, o1, h6', by rw [o2]; exact h7, by rw [o2]; exact h8, by rw [o2]; exact h9, ?_⟩
    rw [if_neg (by simp)]
    exact row_zero.2
  · rw [e1, e2]
    obtain ⟨o1, o2, o3⟩ := take_on t
    refine ⟨h0, h1, h2, h3, h4, o1, decide_eq_true (by simp; omega), by rw [o2]; exact h7, by rw [o2]; exact h8, by rw [o2]; exact h9, ?_⟩
    rw [o2]
    exact h10

end Go.Proofs.YtchdmmlkgglmcaaGreatDoor.Tx
namespace Go.Proofs.YtchdmmlkgglmcaaGreatDoor.fnSeats
open Go.ChangeShapes Go.WideShapes Go.ChangeAt Go.RowKit
open Go.ChangeMaps (open_string shut_string)
set_option linter.unusedVariables false

set_option maxRecDepth 100000 in
set_option maxHeartbeats 128000000 in
theorem walk (w : World) (A : Option Addr) (n cap : Nat) (hb : Tx.BytesAt w w.heap.size A n) (hl : n ≤ maxLen) (ht : Tx.Tab w) :
    Calls Tryz.prog 3 #[.slice A n cap] w fun e w' => e = .returned (.bool true) ∧ Below w.heap.size w w' := by
  unfold maxLen at hl
  have BT := Lib.hid hb
  have K := Lib.hid (Below.refl w.heap.size w)
  have HTB := Lib.hid ht
  clear hb ht
  by_cases hbig : 4096 < n
  · have hd : decide (4096 < n) = true := by simpa using hbig
    go_enter Tryz.func3, Tryz.ntmps3
    go_wp2_with fail
    refine (Tx.big_any _ _ _ _).mono ?_
    rintro e w' ⟨rfl, rfl⟩
    go_wp2
    go_ret
    exact ⟨rfl, Below.refl _ _⟩
  have hd : decide (4096 < n) = false := by simpa using hbig
  have hn : n ≤ 4096 := by omega
  clear hbig
  go_enter Tryz.func3, Tryz.ntmps3
  go_wp2_with fail
  refine (Tx.big_any _ _ _ _).mono ?_
  rintro e w' ⟨rfl, rfl⟩
  clear hd
  go_wp2_with fail
  refine (Tx.DrawHears_any _ A n cap hn (BT.out.up K.out.size)).mono ?_
  rintro e w1 ⟨⟨st, sh, sd, sp, ⟨⟨eu, es, eh, ea⟩, en⟩, ⟨⟨fu, fs, fh, fa⟩, fn⟩⟩, B, m, mc, l, ⟨⟨xu, xs, xh, xa⟩, xn, xt, xp⟩, hm, rfl, ho, b⟩
  replace BT := Lib.hid (BT.out.below (b.mono K.out.size))
  replace K := Lib.hid (K.out.trans (b.mono K.out.size))
  have sw1 := b.size
  have LG0 := Lib.hid ho
  have hlLG0 := ho
  clear ho
  clear b
  have hlLG : ∀ k, Tx.blkA B = some k → k < w1.heap.size := fun k e => (hlLG0.lt e).2
  clear hlLG0
  have LG := LG0
  clear LG0
  have hzc : B = none → mc = 0 := fun e => by
    rcases LG.out with ⟨_, _, h, _⟩ | ⟨g, h, _⟩
    · exact h
    · rw [h] at e; cases e
  have hlm : l.length = m := LG.out.len
  have HV : Hid (Tx.SeatV.val ⟨st, sh, sd, sp, ⟨⟨eu, es, eh, ea⟩, en⟩, ⟨⟨fu, fs, fh, fa⟩, fn⟩⟩ B m mc = .agg #[.int .i64 st, .int .i64 sh, .int .i64 sd, .int .i64 sp, .int .i64 eu, .int .i64 es, .int .i64 eh, .int .i64 ea, .int .i64 en, .int .i64 fu, .int .i64 fs, .int .i64 fh, .int .i64 fa, .int .i64 fn, .slice B m mc]) := rfl
  have HB : Hid (Tx.BoxV.val ⟨⟨xu, xs, xh, xa⟩, xn, xt, xp⟩ = .agg #[.int .i64 xu, .int .i64 xs, .int .i64 xh, .int .i64 xa, .int .i64 xn, .string xt, .bool xp]) := rfl
  rw [HV.out, HB.out]
  clear HV HB
  obtain ⟨⟨rst, rsh, rsd, rsp, ⟨⟨reu, res, reh, rea⟩, ren⟩, ⟨⟨rfu, rfs, rfh, rfa⟩, rfn⟩⟩, hr⟩ : ∃ o, Tx.hearS ⟨st, sh, sd, sp, ⟨⟨eu, es, eh, ea⟩, en⟩, ⟨⟨fu, fs, fh, fa⟩, fn⟩⟩ m ⟨⟨xu, xs, xh, xa⟩, xn, xt, xp⟩ = o := ⟨_, rfl⟩
  obtain ⟨y, hy⟩ : ∃ o, Tx.hearC ⟨st, sh, sd, sp, ⟨⟨eu, es, eh, ea⟩, en⟩, ⟨⟨fu, fs, fh, fa⟩, fn⟩⟩ m ⟨⟨xu, xs, xh, xa⟩, xn, xt, xp⟩ = o := ⟨_, rfl⟩
  obtain ⟨ol, hol⟩ : ∃ o, Tx.hearL ⟨st, sh, sd, sp, ⟨⟨eu, es, eh, ea⟩, en⟩, ⟨⟨fu, fs, fh, fa⟩, fn⟩⟩ l ⟨⟨xu, xs, xh, xa⟩, xn, xt, xp⟩ = o := ⟨_, rfl⟩
  have HR := Lib.hid hr
  have HY := Lib.hid hy
  have HO := Lib.hid hol
  have hol1 : ol.length ≤ 100 := by rw [← hol]; exact Tx.hearL_small 100 _ _ _ (by omega) (by omega)
  clear hr hy hol
  obtain ⟨V2, hV2⟩ : ∃ W, w1.alloc (.cells #[.int .i64 0, .int .i64 0, .int .i64 0, .int .i64 0, .int .i64 0, .int .i64 0, .int .i64 0, .int .i64 0, .int .i64 0, .int .i64 0, .int .i64 0, .int .i64 0, .int .i64 0, .int .i64 0, .slice none 0 0] 30) = W := ⟨_, rfl⟩
  replace BT := Lib.hid (BT.out.below ((Below.refl _ _).alloc K.out.size (.cells #[.int .i64 0, .int .i64 0, .int .i64 0, .int .i64 0, .int .i64 0, .int .i64 0, .int .i64 0, .int .i64 0, .int .i64 0, .int .i64 0, .int .i64 0, .int .i64 0, .int .i64 0, .int .i64 0, .slice none 0 0] 30)))
  replace K := Lib.hid (K.out.alloc K.out.size (.cells #[.int .i64 0, .int .i64 0, .int .i64 0, .int .i64 0, .int .i64 0, .int .i64 0, .int .i64 0, .int .i64 0, .int .i64 0, .int .i64 0, .int .i64 0, .int .i64 0, .int .i64 0, .int .i64 0, .slice none 0 0] 30))
  replace LG := Lib.hid (LG.out.on ((Below.refl _ _).alloc (Nat.le_refl _) (.cells #[.int .i64 0, .int .i64 0, .int .i64 0, .int .i64 0, .int .i64 0, .int .i64 0, .int .i64 0, .int .i64 0, .int .i64 0, .int .i64 0, .int .i64 0, .int .i64 0, .int .i64 0, .int .i64 0, .slice none 0 0] 30)))
  have KS := Lib.hid (Tx.heap1 w1 (.cells #[.int .i64 0, .int .i64 0, .int .i64 0, .int .i64 0, .int .i64 0, .int .i64 0, .int .i64 0, .int .i64 0, .int .i64 0, .int .i64 0, .int .i64 0, .int .i64 0, .int .i64 0, .int .i64 0, .slice none 0 0] 30))
  rw [hV2] at BT K LG KS
  have sV2 : w1.heap.size < V2.heap.size := by rw [← hV2]; simp
  obtain ⟨V3, hV3⟩ : ∃ W, V2.alloc (.cells #[.int .i64 0, .int .i64 0, .int .i64 0, .int .i64 0, .int .i64 0, .string ⟨#[]⟩, .bool false] 32) = W := ⟨_, rfl⟩
  replace BT := Lib.hid (BT.out.below ((Below.refl _ _).alloc K.out.size (.cells #[.int .i64 0, .int .i64 0, .int .i64 0, .int .i64 0, .int .i64 0, .string ⟨#[]⟩, .bool false] 32)))
  replace K := Lib.hid (K.out.alloc K.out.size (.cells #[.int .i64 0, .int .i64 0, .int .i64 0, .int .i64 0, .int .i64 0, .string ⟨#[]⟩, .bool false] 32))
  replace LG := Lib.hid (LG.out.on ((Below.refl _ _).alloc (Nat.le_refl _) (.cells #[.int .i64 0, .int .i64 0, .int .i64 0, .int .i64 0, .int .i64 0, .string ⟨#[]⟩, .bool false] 32)))
  replace KS := Lib.hid (Tx.alloc_blk (o := .cells #[.int .i64 0, .int .i64 0, .int .i64 0, .int .i64 0, .int .i64 0, .string ⟨#[]⟩, .bool false] 32) KS.out)
  have KB := Lib.hid (Tx.heap1 V2 (.cells #[.int .i64 0, .int .i64 0, .int .i64 0, .int .i64 0, .int .i64 0, .string ⟨#[]⟩, .bool false] 32))
  rw [hV3] at BT K LG KS KB
  have sV3 : V2.heap.size < V3.heap.size := by rw [← hV3]; simp
  have KSo := KS
  have KB1 : Hid ((V3.setRow w1.heap.size #[.int .i64 st, .int .i64 sh, .int .i64 sd, .int .i64 sp, .int .i64 eu, .int .i64 es, .int .i64 eh, .int .i64 ea, .int .i64 en, .int .i64 fu, .int .i64 fs, .int .i64 fh, .int .i64 fa, .int .i64 fn, .slice B m mc]).heap[V2.heap.size]? = some (.cells #[.int .i64 0, .int .i64 0, .int .i64 0, .int .i64 0, .int .i64 0, .string ⟨#[]⟩, .bool false] 32)) := (setRow_other _ _ _ _ (by omega)).trans KB.out
  have bs : Below w1.heap.size V3 ((V3.setRow w1.heap.size #[.int .i64 st, .int .i64 sh, .int .i64 sd, .int .i64 sp, .int .i64 eu, .int .i64 es, .int .i64 eh, .int .i64 ea, .int .i64 en, .int .i64 fu, .int .i64 fs, .int .i64 fh, .int .i64 fa, .int .i64 fn, .slice B m mc]).setRow V2.heap.size #[.int .i64 xu, .int .i64 xs, .int .i64 xh, .int .i64 xa, .int .i64 xn, .string xt, .bool xp]) := below_setRow (below_setRow (Below.refl _ _) (Nat.le_refl _) _) (by omega) _
  have KS2 : Hid (((V3.setRow w1.heap.size #[.int .i64 st, .int .i64 sh, .int .i64 sd, .int .i64 sp, .int .i64 eu, .int .i64 es, .int .i64 eh, .int .i64 ea, .int .i64 en, .int .i64 fu, .int .i64 fs, .int .i64 fh, .int .i64 fa, .int .i64 fn, .slice B m mc]).setRow V2.heap.size #[.int .i64 xu, .int .i64 xs, .int .i64 xh, .int .i64 xa, .int .i64 xn, .string xt, .bool xp]).heap[w1.heap.size]? = some (.cells #[.int .i64 st, .int .i64 sh, .int .i64 sd, .int .i64 sp, .int .i64 eu, .int .i64 es, .int .i64 eh, .int .i64 ea, .int .i64 en, .int .i64 fu, .int .i64 fs, .int .i64 fh, .int .i64 fa, .int .i64 fn, .slice B m mc] 30)) := (setRow_other _ _ _ _ (by omega)).trans (setRow_heap _ _ _ _ _ _ KS.out)
  have KB2 : Hid (((V3.setRow w1.heap.size #[.int .i64 st, .int .i64 sh, .int .i64 sd, .int .i64 sp, .int .i64 eu, .int .i64 es, .int .i64 eh, .int .i64 ea, .int .i64 en, .int .i64 fu, .int .i64 fs, .int .i64 fh, .int .i64 fa, .int .i64 fn, .slice B m mc]).setRow V2.heap.size #[.int .i64 xu, .int .i64 xs, .int .i64 xh, .int .i64 xa, .int .i64 xn, .string xt, .bool xp]).heap[V2.heap.size]? = some (.cells #[.int .i64 xu, .int .i64 xs, .int .i64 xh, .int .i64 xa, .int .i64 xn, .string xt, .bool xp] 32)) := setRow_heap _ _ _ _ _ _ KB1.out
  have BT2 := Lib.hid (BT.out.below (bs.mono (by omega)))
  have K2 := Lib.hid (K.out.trans (bs.mono (by omega)))
  have LG2 := Lib.hid (LG.out.heap (w' := ((V3.setRow w1.heap.size #[.int .i64 st, .int .i64 sh, .int .i64 sd, .int .i64 sp, .int .i64 eu, .int .i64 es, .int .i64 eh, .int .i64 ea, .int .i64 en, .int .i64 fu, .int .i64 fs, .int .i64 fh, .int .i64 fa, .int .i64 fn, .slice B m mc]).setRow V2.heap.size #[.int .i64 xu, .int .i64 xs, .int .i64 xh, .int .i64 xa, .int .i64 xn, .string xt, .bool xp])) (fun k e => (setRow_other _ _ _ _ (by have := hlLG k e; omega)).trans (setRow_other _ _ _ _ (by have := hlLG k e; omega))))
  have sR := bs.size
  go_wp2_with (first | (refine wpList_load_row rfl 30 _ rfl (w1.heap.size) rfl 30 _ (0, 0) _ KS2.out Tryz.underlying30 rfl (by kernel_rfl) ?_) | (refine wpList_load_row rfl 32 _ rfl (V2.heap.size) rfl 32 _ (0, 0) _ KB2.out Tryz.underlying32 rfl (by kernel_rfl) ?_) | (refine wpList_store_row rfl 30 _ _ rfl (w1.heap.size) #[.int .i64 st, .int .i64 sh, .int .i64 sd, .int .i64 sp, .int .i64 eu, .int .i64 es, .int .i64 eh, .int .i64 ea, .int .i64 en, .int .i64 fu, .int .i64 fs, .int .i64 fh, .int .i64 fa, .int .i64 fn, .slice B m mc] rfl rfl 30 _ KSo.out (by kernel_rfl) rfl (by simp [Value.oneCell']) ?_) | (refine wpList_store_row rfl 32 _ _ rfl (V2.heap.size) #[.int .i64 xu, .int .i64 xs, .int .i64 xh, .int .i64 xa, .int .i64 xn, .string xt, .bool xp] rfl rfl 32 _ KB1.out (by kernel_rfl) rfl (by simp [Value.oneCell']) ?_))
  clear hV2 hV3
  generalize ((V3.setRow w1.heap.size #[.int .i64 st, .int .i64 sh, .int .i64 sd, .int .i64 sp, .int .i64 eu, .int .i64 es, .int .i64 eh, .int .i64 ea, .int .i64 en, .int .i64 fu, .int .i64 fs, .int .i64 fh, .int .i64 fa, .int .i64 fn, .slice B m mc]).setRow V2.heap.size #[.int .i64 xu, .int .i64 xs, .int .i64 xh, .int .i64 xa, .int .i64 xn, .string xt, .bool xp]) = S3 at KS2 KB2 BT2 K2 LG2 sR ⊢
  clear bs KSo KB1 KS KB BT K LG
  have KS := KS2
  have KB := KB2
  have BT := BT2
  have K := K2
  have LG := LG2
  clear KS2 KB2 BT2 K2 LG2
  have sSS3 : V3.heap.size ≤ S3.heap.size := sR
  clear sR
  have hh : Calls Tryz.prog 6 #[.agg #[.int .i64 st, .int .i64 sh, .int .i64 sd, .int .i64 sp, .int .i64 eu, .int .i64 es, .int .i64 eh, .int .i64 ea, .int .i64 en, .int .i64 fu, .int .i64 fs, .int .i64 fh, .int .i64 fa, .int .i64 fn, .slice B m mc], .agg #[.int .i64 xu, .int .i64 xs, .int .i64 xh, .int .i64 xa, .int .i64 xn, .string xt, .bool xp]] S3 fun e w' => ∃ (B : Option Addr) (c : Nat), e = .returned (.tuple #[.agg #[.int .i64 rst, .int .i64 rsh, .int .i64 rsd, .int .i64 rsp, .int .i64 reu, .int .i64 res, .int .i64 reh, .int .i64 rea, .int .i64 ren, .int .i64 rfu, .int .i64 rfs, .int .i64 rfh, .int .i64 rfa, .int .i64 rfn, .slice B ol.length c], .int .i64 y]) ∧ Tx.OutE w' S3.heap.size 49 B ol.length c ol ∧ Below S3.heap.size S3 w' := by
    have h1 := Tx.Hears_impl ⟨st, sh, sd, sp, ⟨⟨eu, es, eh, ea⟩, en⟩, ⟨⟨fu, fs, fh, fa⟩, fn⟩⟩ B m mc l ⟨⟨xu, xs, xh, xa⟩, xn, xt, xp⟩ S3 LG.out.elts hzc (by omega) (HTB.out.on K.out)
    rw [HR.out, HY.out, HO.out] at h1
    exact h1.mono fun e w' ⟨B, m2, c, he, ho, hb⟩ => by
      have hm2 := ho.out.len
      subst hm2
      exact ⟨B, c, he, ho.out, hb⟩
  refine (hh).mono ?_
  rintro e w4 ⟨B1, c1, rfl, ho, b⟩
  replace BT := Lib.hid (BT.out.below (b.mono K.out.size))
  replace K := Lib.hid (K.out.trans (b.mono K.out.size))
  replace LG := Lib.hid (LG.out.on b)
  replace KS := Lib.hid (Tx.blk_on b KS.out)
  replace KB := Lib.hid (Tx.blk_on b KB.out)
  have sw4 := b.size
  have OA0 := Lib.hid ho
  have hlOA0 := ho
  clear ho
  clear hh
  clear b
  have hlOA : ∀ k, Tx.blkA B1 = some k → k < w4.heap.size := fun k e => (hlOA0.lt e).2
  clear hlOA0
  have OA := OA0
  clear OA0
  obtain ⟨V5, hV5⟩ : ∃ W, w4.alloc (.cells #[.int .i64 0, .int .i64 0, .int .i64 0, .int .i64 0, .int .i64 0, .int .i64 0, .int .i64 0, .int .i64 0, .int .i64 0, .int .i64 0, .int .i64 0, .int .i64 0, .int .i64 0, .int .i64 0, .slice none 0 0] 30) = W := ⟨_, rfl⟩
  replace BT := Lib.hid (BT.out.below ((Below.refl _ _).alloc K.out.size (.cells #[.int .i64 0, .int .i64 0, .int .i64 0, .int .i64 0, .int .i64 0, .int .i64 0, .int .i64 0, .int .i64 0, .int .i64 0, .int .i64 0, .int .i64 0, .int .i64 0, .int .i64 0, .int .i64 0, .slice none 0 0] 30)))
  replace K := Lib.hid (K.out.alloc K.out.size (.cells #[.int .i64 0, .int .i64 0, .int .i64 0, .int .i64 0, .int .i64 0, .int .i64 0, .int .i64 0, .int .i64 0, .int .i64 0, .int .i64 0, .int .i64 0, .int .i64 0, .int .i64 0, .int .i64 0, .slice none 0 0] 30))
  replace LG := Lib.hid (LG.out.on ((Below.refl _ _).alloc (Nat.le_refl _) (.cells #[.int .i64 0, .int .i64 0, .int .i64 0, .int .i64 0, .int .i64 0, .int .i64 0, .int .i64 0, .int .i64 0, .int .i64 0, .int .i64 0, .int .i64 0, .int .i64 0, .int .i64 0, .int .i64 0, .slice none 0 0] 30)))
  replace KS := Lib.hid (Tx.alloc_blk (o := .cells #[.int .i64 0, .int .i64 0, .int .i64 0, .int .i64 0, .int .i64 0, .int .i64 0, .int .i64 0, .int .i64 0, .int .i64 0, .int .i64 0, .int .i64 0, .int .i64 0, .int .i64 0, .int .i64 0, .slice none 0 0] 30) KS.out)
  replace KB := Lib.hid (Tx.alloc_blk (o := .cells #[.int .i64 0, .int .i64 0, .int .i64 0, .int .i64 0, .int .i64 0, .int .i64 0, .int .i64 0, .int .i64 0, .int .i64 0, .int .i64 0, .int .i64 0, .int .i64 0, .int .i64 0, .int .i64 0, .slice none 0 0] 30) KB.out)
  replace OA := Lib.hid (OA.out.on ((Below.refl _ _).alloc (Nat.le_refl _) (.cells #[.int .i64 0, .int .i64 0, .int .i64 0, .int .i64 0, .int .i64 0, .int .i64 0, .int .i64 0, .int .i64 0, .int .i64 0, .int .i64 0, .int .i64 0, .int .i64 0, .int .i64 0, .int .i64 0, .slice none 0 0] 30)))
  have KX := Lib.hid (Tx.heap1 w4 (.cells #[.int .i64 0, .int .i64 0, .int .i64 0, .int .i64 0, .int .i64 0, .int .i64 0, .int .i64 0, .int .i64 0, .int .i64 0, .int .i64 0, .int .i64 0, .int .i64 0, .int .i64 0, .int .i64 0, .slice none 0 0] 30))
  rw [hV5] at BT K LG KS KB OA KX
  have sV5 : w4.heap.size < V5.heap.size := by rw [← hV5]; simp
  have KXo := KX
  have bs : Below w4.heap.size V5 (V5.setRow w4.heap.size #[.int .i64 rst, .int .i64 rsh, .int .i64 rsd, .int .i64 rsp, .int .i64 reu, .int .i64 res, .int .i64 reh, .int .i64 rea, .int .i64 ren, .int .i64 rfu, .int .i64 rfs, .int .i64 rfh, .int .i64 rfa, .int .i64 rfn, .slice B1 ol.length c1]) := below_setRow (Below.refl _ _) (Nat.le_refl _) _
  have KX2 : Hid ((V5.setRow w4.heap.size #[.int .i64 rst, .int .i64 rsh, .int .i64 rsd, .int .i64 rsp, .int .i64 reu, .int .i64 res, .int .i64 reh, .int .i64 rea, .int .i64 ren, .int .i64 rfu, .int .i64 rfs, .int .i64 rfh, .int .i64 rfa, .int .i64 rfn, .slice B1 ol.length c1]).heap[w4.heap.size]? = some (.cells #[.int .i64 rst, .int .i64 rsh, .int .i64 rsd, .int .i64 rsp, .int .i64 reu, .int .i64 res, .int .i64 reh, .int .i64 rea, .int .i64 ren, .int .i64 rfu, .int .i64 rfs, .int .i64 rfh, .int .i64 rfa, .int .i64 rfn, .slice B1 ol.length c1] 30)) := setRow_heap _ _ _ _ _ _ KX.out
  have BT2 := Lib.hid (BT.out.below (bs.mono (by omega)))
  have K2 := Lib.hid (K.out.trans (bs.mono (by omega)))
  have LG2 := Lib.hid (LG.out.heap (w' := (V5.setRow w4.heap.size #[.int .i64 rst, .int .i64 rsh, .int .i64 rsd, .int .i64 rsp, .int .i64 reu, .int .i64 res, .int .i64 reh, .int .i64 rea, .int .i64 ren, .int .i64 rfu, .int .i64 rfs, .int .i64 rfh, .int .i64 rfa, .int .i64 rfn, .slice B1 ol.length c1])) (fun k e => setRow_other _ _ _ _ (by have := hlLG k e; omega)))
  have KS2 := Lib.hid (show (V5.setRow w4.heap.size #[.int .i64 rst, .int .i64 rsh, .int .i64 rsd, .int .i64 rsp, .int .i64 reu, .int .i64 res, .int .i64 reh, .int .i64 rea, .int .i64 ren, .int .i64 rfu, .int .i64 rfs, .int .i64 rfh, .int .i64 rfa, .int .i64 rfn, .slice B1 ol.length c1]).heap[_]? = _ from (setRow_other _ _ _ _ (by omega)).trans KS.out)
  have KB2 := Lib.hid (show (V5.setRow w4.heap.size #[.int .i64 rst, .int .i64 rsh, .int .i64 rsd, .int .i64 rsp, .int .i64 reu, .int .i64 res, .int .i64 reh, .int .i64 rea, .int .i64 ren, .int .i64 rfu, .int .i64 rfs, .int .i64 rfh, .int .i64 rfa, .int .i64 rfn, .slice B1 ol.length c1]).heap[_]? = _ from (setRow_other _ _ _ _ (by omega)).trans KB.out)
  have OA2 := Lib.hid (OA.out.heap (w' := (V5.setRow w4.heap.size #[.int .i64 rst, .int .i64 rsh, .int .i64 rsd, .int .i64 rsp, .int .i64 reu, .int .i64 res, .int .i64 reh, .int .i64 rea, .int .i64 ren, .int .i64 rfu, .int .i64 rfs, .int .i64 rfh, .int .i64 rfa, .int .i64 rfn, .slice B1 ol.length c1])) (fun k e => setRow_other _ _ _ _ (by have := hlOA k e; omega)))
  have sR := bs.size
  go_wp2_with (first | (refine wpList_store_row rfl 30 _ _ rfl (w4.heap.size) #[.int .i64 rst, .int .i64 rsh, .int .i64 rsd, .int .i64 rsp, .int .i64 reu, .int .i64 res, .int .i64 reh, .int .i64 rea, .int .i64 ren, .int .i64 rfu, .int .i64 rfs, .int .i64 rfh, .int .i64 rfa, .int .i64 rfn, .slice B1 ol.length c1] rfl rfl 30 _ KXo.out (by kernel_rfl) rfl (by simp [Value.oneCell']) ?_))
  clear hV5 
  generalize (V5.setRow w4.heap.size #[.int .i64 rst, .int .i64 rsh, .int .i64 rsd, .int .i64 rsp, .int .i64 reu, .int .i64 res, .int .i64 reh, .int .i64 rea, .int .i64 ren, .int .i64 rfu, .int .i64 rfs, .int .i64 rfh, .int .i64 rfa, .int .i64 rfn, .slice B1 ol.length c1]) = S5 at KX2 BT2 K2 LG2 KS2 KB2 OA2 sR ⊢
  clear bs KXo KX BT K LG KS KB OA
  have KX := KX2
  have BT := BT2
  have K := K2
  have LG := LG2
  have KS := KS2
  have KB := KB2
  have OA := OA2
  clear KX2 BT2 K2 LG2 KS2 KB2 OA2
  have sSS5 : V5.heap.size ≤ S5.heap.size := sR
  clear sR
  refine (Tx.DrawNewSeat_any _ A n cap hn (BT.out.up K.out.size)).mono ?_
  rintro e w6 ⟨hh, d, p, sc, hp, rfl, b⟩
  replace BT := Lib.hid (BT.out.below (b.mono K.out.size))
  replace K := Lib.hid (K.out.trans (b.mono K.out.size))
  replace LG := Lib.hid (LG.out.on b)
  replace KS := Lib.hid (Tx.blk_on b KS.out)
  replace KB := Lib.hid (Tx.blk_on b KB.out)
  replace OA := Lib.hid (OA.out.on b)
  replace KX := Lib.hid (Tx.blk_on b KX.out)
  have sw6 := b.size
  clear b
  obtain ⟨⟨vst, vsh, vsd, vsp, ⟨⟨veu, ves, veh, vea⟩, ven⟩, ⟨⟨vfu, vfs, vfh, vfa⟩, vfn⟩⟩, hv⟩ : ∃ o, Tx.newSeatV hh d p sc = o := ⟨_, rfl⟩
  obtain ⟨nb, hnb⟩ : ∃ o, Tx.newSeatB hh d p sc = o := ⟨_, rfl⟩
  have HN : Hid (nb = true → Tx.seatOkB ⟨vst, vsh, vsd, vsp, ⟨⟨veu, ves, veh, vea⟩, ven⟩, ⟨⟨vfu, vfs, vfh, vfa⟩, vfn⟩⟩ 0 = true) := fun e => by
    have h1 : Tx.newSeatB hh d p sc = true := hnb.trans e
    rw [← hv, Tx.newSeatV, if_pos h1]
    simp only [Tx.newSeatB, Bool.and_eq_true] at h1
    exact h1.2
  have hnn : (nb != nb) = false := by simp
  have E0 : ∀ (w' : World) (A : Option Addr), Tx.EltsO w' w'.heap.size A 0 ([] : List Tx.WordV) := fun w' A => ⟨rfl, fun h => absurd h (by omega)⟩
  have hI : Calls Tryz.prog 8 #[.int .i64 hh, .int .i64 d, .int .i64 p, .int .i64 sc] w6 fun e w' => ∃ (A1 : Option Addr) (a1 : Nat), e = .returned (.tuple #[.agg #[.int .i64 vst, .int .i64 vsh, .int .i64 vsd, .int .i64 vsp, .int .i64 veu, .int .i64 ves, .int .i64 veh, .int .i64 vea, .int .i64 ven, .int .i64 vfu, .int .i64 vfs, .int .i64 vfh, .int .i64 vfa, .int .i64 vfn, .slice A1 0 a1], .bool nb]) ∧ Below w6.heap.size w6 w' := by
    have h1 := Tx.NewSeat_impl hh d p sc w6
    rw [hv, hnb] at h1
    exact h1.mono fun e w' ⟨A1, a1, he, _, hb⟩ => ⟨A1, a1, he, hb⟩
  have hS : Hid (∀ w' : World, Calls Tryz.prog 19 #[.int .i64 hh, .int .i64 d, .int .i64 p, .int .i64 sc] w' fun e w'' => e = .returned (.tuple #[.agg #[.int .i64 vst, .int .i64 vsh, .int .i64 vsd, .int .i64 vsp, .int .i64 veu, .int .i64 ves, .int .i64 veh, .int .i64 vea, .int .i64 ven, .int .i64 vfu, .int .i64 vfs, .int .i64 vfh, .int .i64 vfa, .int .i64 vfn, .slice none 0 0], .bool nb]) ∧ Below w'.heap.size w' w'') := fun w' => by
    have h1 := Tx.NewSeat_spec hh d p sc w'
    rw [hv, hnb] at h1
    exact h1
  clear hv hnb
  go_wp2_with fail
  refine (hI).mono ?_
  rintro e w7 ⟨A1, a1, rfl, b⟩
  replace BT := Lib.hid (BT.out.below (b.mono K.out.size))
  replace K := Lib.hid (K.out.trans (b.mono K.out.size))
  replace LG := Lib.hid (LG.out.on b)
  replace KS := Lib.hid (Tx.blk_on b KS.out)
  replace KB := Lib.hid (Tx.blk_on b KB.out)
  replace OA := Lib.hid (OA.out.on b)
  replace KX := Lib.hid (Tx.blk_on b KX.out)
  have sw7 := b.size
  clear hI
  clear b
  obtain ⟨V8, hV8⟩ : ∃ W, w7.alloc (.cells #[.int .i64 0, .int .i64 0, .int .i64 0, .int .i64 0, .int .i64 0, .int .i64 0, .int .i64 0, .int .i64 0, .int .i64 0, .int .i64 0, .int .i64 0, .int .i64 0, .int .i64 0, .int .i64 0, .slice none 0 0] 30) = W := ⟨_, rfl⟩
  replace BT := Lib.hid (BT.out.below ((Below.refl _ _).alloc K.out.size (.cells #[.int .i64 0, .int .i64 0, .int .i64 0, .int .i64 0, .int .i64 0, .int .i64 0, .int .i64 0, .int .i64 0, .int .i64 0, .int .i64 0, .int .i64 0, .int .i64 0, .int .i64 0, .int .i64 0, .slice none 0 0] 30)))
  replace K := Lib.hid (K.out.alloc K.out.size (.cells #[.int .i64 0, .int .i64 0, .int .i64 0, .int .i64 0, .int .i64 0, .int .i64 0, .int .i64 0, .int .i64 0, .int .i64 0, .int .i64 0, .int .i64 0, .int .i64 0, .int .i64 0, .int .i64 0, .slice none 0 0] 30))
  replace LG := Lib.hid (LG.out.on ((Below.refl _ _).alloc (Nat.le_refl _) (.cells #[.int .i64 0, .int .i64 0, .int .i64 0, .int .i64 0, .int .i64 0, .int .i64 0, .int .i64 0, .int .i64 0, .int .i64 0, .int .i64 0, .int .i64 0, .int .i64 0, .int .i64 0, .int .i64 0, .slice none 0 0] 30)))
  replace KS := Lib.hid (Tx.alloc_blk (o := .cells #[.int .i64 0, .int .i64 0, .int .i64 0, .int .i64 0, .int .i64 0, .int .i64 0, .int .i64 0, .int .i64 0, .int .i64 0, .int .i64 0, .int .i64 0, .int .i64 0, .int .i64 0, .int .i64 0, .slice none 0 0] 30) KS.out)
  replace KB := Lib.hid (Tx.alloc_blk (o := .cells #[.int .i64 0, .int .i64 0, .int .i64 0, .int .i64 0, .int .i64 0, .int .i64 0, .int .i64 0, .int .i64 0, .int .i64 0, .int .i64 0, .int .i64 0, .int .i64 0, .int .i64 0, .int .i64 0, .slice none 0 0] 30) KB.out)
  replace OA := Lib.hid (OA.out.on ((Below.refl _ _).alloc (Nat.le_refl _) (.cells #[.int .i64 0, .int .i64 0, .int .i64 0, .int .i64 0, .int .i64 0, .int .i64 0, .int .i64 0, .int .i64 0, .int .i64 0, .int .i64 0, .int .i64 0, .int .i64 0, .int .i64 0, .int .i64 0, .slice none 0 0] 30)))
  replace KX := Lib.hid (Tx.alloc_blk (o := .cells #[.int .i64 0, .int .i64 0, .int .i64 0, .int .i64 0, .int .i64 0, .int .i64 0, .int .i64 0, .int .i64 0, .int .i64 0, .int .i64 0, .int .i64 0, .int .i64 0, .int .i64 0, .int .i64 0, .slice none 0 0] 30) KX.out)
  have KN := Lib.hid (Tx.heap1 w7 (.cells #[.int .i64 0, .int .i64 0, .int .i64 0, .int .i64 0, .int .i64 0, .int .i64 0, .int .i64 0, .int .i64 0, .int .i64 0, .int .i64 0, .int .i64 0, .int .i64 0, .int .i64 0, .int .i64 0, .slice none 0 0] 30))
  rw [hV8] at BT K LG KS KB OA KX KN
  have sV8 : w7.heap.size < V8.heap.size := by rw [← hV8]; simp
  have KNo := KN
  have bs : Below w7.heap.size V8 (V8.setRow w7.heap.size #[.int .i64 vst, .int .i64 vsh, .int .i64 vsd, .int .i64 vsp, .int .i64 veu, .int .i64 ves, .int .i64 veh, .int .i64 vea, .int .i64 ven, .int .i64 vfu, .int .i64 vfs, .int .i64 vfh, .int .i64 vfa, .int .i64 vfn, .slice A1 0 a1]) := below_setRow (Below.refl _ _) (Nat.le_refl _) _
  have KN2 : Hid ((V8.setRow w7.heap.size #[.int .i64 vst, .int .i64 vsh, .int .i64 vsd, .int .i64 vsp, .int .i64 veu, .int .i64 ves, .int .i64 veh, .int .i64 vea, .int .i64 ven, .int .i64 vfu, .int .i64 vfs, .int .i64 vfh, .int .i64 vfa, .int .i64 vfn, .slice A1 0 a1]).heap[w7.heap.size]? = some (.cells #[.int .i64 vst, .int .i64 vsh, .int .i64 vsd, .int .i64 vsp, .int .i64 veu, .int .i64 ves, .int .i64 veh, .int .i64 vea, .int .i64 ven, .int .i64 vfu, .int .i64 vfs, .int .i64 vfh, .int .i64 vfa, .int .i64 vfn, .slice A1 0 a1] 30)) := setRow_heap _ _ _ _ _ _ KN.out
  have BT2 := Lib.hid (BT.out.below (bs.mono (by omega)))
  have K2 := Lib.hid (K.out.trans (bs.mono (by omega)))
  have LG2 := Lib.hid (LG.out.heap (w' := (V8.setRow w7.heap.size #[.int .i64 vst, .int .i64 vsh, .int .i64 vsd, .int .i64 vsp, .int .i64 veu, .int .i64 ves, .int .i64 veh, .int .i64 vea, .int .i64 ven, .int .i64 vfu, .int .i64 vfs, .int .i64 vfh, .int .i64 vfa, .int .i64 vfn, .slice A1 0 a1])) (fun k e => setRow_other _ _ _ _ (by have := hlLG k e; omega)))
  have KS2 := Lib.hid (show (V8.setRow w7.heap.size #[.int .i64 vst, .int .i64 vsh, .int .i64 vsd, .int .i64 vsp, .int .i64 veu, .int .i64 ves, .int .i64 veh, .int .i64 vea, .int .i64 ven, .int .i64 vfu, .int .i64 vfs, .int .i64 vfh, .int .i64 vfa, .int .i64 vfn, .slice A1 0 a1]).heap[_]? = _ from (setRow_other _ _ _ _ (by omega)).trans KS.out)
  have KB2 := Lib.hid (show (V8.setRow w7.heap.size #[.int .i64 vst, .int .i64 vsh, .int .i64 vsd, .int .i64 vsp, .int .i64 veu, .int .i64 ves, .int .i64 veh, .int .i64 vea, .int .i64 ven, .int .i64 vfu, .int .i64 vfs, .int .i64 vfh, .int .i64 vfa, .int .i64 vfn, .slice A1 0 a1]).heap[_]? = _ from (setRow_other _ _ _ _ (by omega)).trans KB.out)
  have OA2 := Lib.hid (OA.out.heap (w' := (V8.setRow w7.heap.size #[.int .i64 vst, .int .i64 vsh, .int .i64 vsd, .int .i64 vsp, .int .i64 veu, .int .i64 ves, .int .i64 veh, .int .i64 vea, .int .i64 ven, .int .i64 vfu, .int .i64 vfs, .int .i64 vfh, .int .i64 vfa, .int .i64 vfn, .slice A1 0 a1])) (fun k e => setRow_other _ _ _ _ (by have := hlOA k e; omega)))
  have KX2 := Lib.hid (show (V8.setRow w7.heap.size #[.int .i64 vst, .int .i64 vsh, .int .i64 vsd, .int .i64 vsp, .int .i64 veu, .int .i64 ves, .int .i64 veh, .int .i64 vea, .int .i64 ven, .int .i64 vfu, .int .i64 vfs, .int .i64 vfh, .int .i64 vfa, .int .i64 vfn, .slice A1 0 a1]).heap[_]? = _ from (setRow_other _ _ _ _ (by omega)).trans KX.out)
  have sR := bs.size
  go_wp2_with (first | (refine wpList_store_row rfl 30 _ _ rfl (w7.heap.size) #[.int .i64 vst, .int .i64 vsh, .int .i64 vsd, .int .i64 vsp, .int .i64 veu, .int .i64 ves, .int .i64 veh, .int .i64 vea, .int .i64 ven, .int .i64 vfu, .int .i64 vfs, .int .i64 vfh, .int .i64 vfa, .int .i64 vfn, .slice A1 0 a1] rfl rfl 30 _ KNo.out (by kernel_rfl) rfl (by simp [Value.oneCell']) ?_))
  clear hV8 
  generalize (V8.setRow w7.heap.size #[.int .i64 vst, .int .i64 vsh, .int .i64 vsd, .int .i64 vsp, .int .i64 veu, .int .i64 ves, .int .i64 veh, .int .i64 vea, .int .i64 ven, .int .i64 vfu, .int .i64 vfs, .int .i64 vfh, .int .i64 vfa, .int .i64 vfn, .slice A1 0 a1]) = S8 at KN2 BT2 K2 LG2 KS2 KB2 OA2 KX2 sR ⊢
  clear bs KNo KN BT K LG KS KB OA KX
  have KN := KN2
  have BT := BT2
  have K := K2
  have LG := LG2
  have KS := KS2
  have KB := KB2
  have OA := OA2
  have KX := KX2
  clear KN2 BT2 K2 LG2 KS2 KB2 OA2 KX2
  have sSS8 : V8.heap.size ≤ S8.heap.size := sR
  clear sR
  refine (Tx.DrawLogOf_any _ A n cap hn (BT.out.up K.out.size)).mono ?_
  rintro e w9 ⟨⟨tst, tsh, tsd, tsp, ⟨⟨teu, tes, teh, tea⟩, ten⟩, ⟨⟨tfu, tfs, tfh, tfa⟩, tfn⟩⟩, BL, tm, tc, lt, htm, rfl, ho, b⟩
  replace BT := Lib.hid (BT.out.below (b.mono K.out.size))
  replace K := Lib.hid (K.out.trans (b.mono K.out.size))
  replace LG := Lib.hid (LG.out.on b)
  replace KS := Lib.hid (Tx.blk_on b KS.out)
  replace KB := Lib.hid (Tx.blk_on b KB.out)
  replace OA := Lib.hid (OA.out.on b)
  replace KX := Lib.hid (Tx.blk_on b KX.out)
  replace KN := Lib.hid (Tx.blk_on b KN.out)
  have sw9 := b.size
  have LT0 := Lib.hid ho
  have hlLT0 := ho
  clear ho
  clear b
  have hlLT : ∀ k, Tx.blkA BL = some k → k < w9.heap.size := fun k e => (hlLT0.lt e).2
  clear hlLT0
  have LT := LT0
  clear LT0
  have HT : Hid (Tx.SeatV.val ⟨tst, tsh, tsd, tsp, ⟨⟨teu, tes, teh, tea⟩, ten⟩, ⟨⟨tfu, tfs, tfh, tfa⟩, tfn⟩⟩ BL tm tc = .agg #[.int .i64 tst, .int .i64 tsh, .int .i64 tsd, .int .i64 tsp, .int .i64 teu, .int .i64 tes, .int .i64 teh, .int .i64 tea, .int .i64 ten, .int .i64 tfu, .int .i64 tfs, .int .i64 tfh, .int .i64 tfa, .int .i64 tfn, .slice BL tm tc]) := rfl
  rw [HT.out]
  clear HT
  have htl : lt.length = tm := LT.out.len
  obtain ⟨V10, hV10⟩ : ∃ W, w9.alloc (.cells #[.int .i64 0, .int .i64 0, .int .i64 0, .int .i64 0, .int .i64 0, .int .i64 0, .int .i64 0, .int .i64 0, .int .i64 0, .int .i64 0, .int .i64 0, .int .i64 0, .int .i64 0, .int .i64 0, .slice none 0 0] 30) = W := ⟨_, rfl⟩
  replace BT := Lib.hid (BT.out.below ((Below.refl _ _).alloc K.out.size (.cells #[.int .i64 0, .int .i64 0, .int .i64 0, .int .i64 0, .int .i64 0, .int .i64 0, .int .i64 0, .int .i64 0, .int .i64 0, .int .i64 0, .int .i64 0, .int .i64 0, .int .i64 0, .int .i64 0, .slice none 0 0] 30)))
  replace K := Lib.hid (K.out.alloc K.out.size (.cells #[.int .i64 0, .int .i64 0, .int .i64 0, .int .i64 0, .int .i64 0, .int .i64 0, .int .i64 0, .int .i64 0, .int .i64 0, .int .i64 0, .int .i64 0, .int .i64 0, .int .i64 0, .int .i64 0, .slice none 0 0] 30))
  replace LG := Lib.hid (LG.out.on ((Below.refl _ _).alloc (Nat.le_refl _) (.cells #[.int .i64 0, .int .i64 0, .int .i64 0, .int .i64 0, .int .i64 0, .int .i64 0, .int .i64 0, .int .i64 0, .int .i64 0, .int .i64 0, .int .i64 0, .int .i64 0, .int .i64 0, .int .i64 0, .slice none 0 0] 30)))
  replace KS := Lib.hid (Tx.alloc_blk (o := .cells #[.int .i64 0, .int .i64 0, .int .i64 0, .int .i64 0, .int .i64 0, .int .i64 0, .int .i64 0, .int .i64 0, .int .i64 0, .int .i64 0, .int .i64 0, .int .i64 0, .int .i64 0, .int .i64 0, .slice none 0 0] 30) KS.out)
  replace KB := Lib.hid (Tx.alloc_blk (o := .cells #[.int .i64 0, .int .i64 0, .int .i64 0, .int .i64 0, .int .i64 0, .int .i64 0, .int .i64 0, .int .i64 0, .int .i64 0, .int .i64 0, .int .i64 0, .int .i64 0, .int .i64 0, .int .i64 0, .slice none 0 0] 30) KB.out)
  replace OA := Lib.hid (OA.out.on ((Below.refl _ _).alloc (Nat.le_refl _) (.cells #[.int .i64 0, .int .i64 0, .int .i64 0, .int .i64 0, .int .i64 0, .int .i64 0, .int .i64 0, .int .i64 0, .int .i64 0, .int .i64 0, .int .i64 0, .int .i64 0, .int .i64 0, .int .i64 0, .slice none 0 0] 30)))
  replace KX := Lib.hid (Tx.alloc_blk (o := .cells #[.int .i64 0, .int .i64 0, .int .i64 0, .int .i64 0, .int .i64 0, .int .i64 0, .int .i64 0, .int .i64 0, .int .i64 0, .int .i64 0, .int .i64 0, .int .i64 0, .int .i64 0, .int .i64 0, .slice none 0 0] 30) KX.out)
  replace KN := Lib.hid (Tx.alloc_blk (o := .cells #[.int .i64 0, .int .i64 0, .int .i64 0, .int .i64 0, .int .i64 0, .int .i64 0, .int .i64 0, .int .i64 0, .int .i64 0, .int .i64 0, .int .i64 0, .int .i64 0, .int .i64 0, .int .i64 0, .slice none 0 0] 30) KN.out)
  replace LT := Lib.hid (LT.out.on ((Below.refl _ _).alloc (Nat.le_refl _) (.cells #[.int .i64 0, .int .i64 0, .int .i64 0, .int .i64 0, .int .i64 0, .int .i64 0, .int .i64 0, .int .i64 0, .int .i64 0, .int .i64 0, .int .i64 0, .int .i64 0, .int .i64 0, .int .i64 0, .slice none 0 0] 30)))
  have KL := Lib.hid (Tx.heap1 w9 (.cells #[.int .i64 0, .int .i64 0, .int .i64 0, .int .i64 0, .int .i64 0, .int .i64 0, .int .i64 0, .int .i64 0, .int .i64 0, .int .i64 0, .int .i64 0, .int .i64 0, .int .i64 0, .int .i64 0, .slice none 0 0] 30))
  rw [hV10] at BT K LG KS KB OA KX KN LT KL
  have sV10 : w9.heap.size < V10.heap.size := by rw [← hV10]; simp
  have KLo := KL
  have bs : Below w9.heap.size V10 (V10.setRow w9.heap.size #[.int .i64 tst, .int .i64 tsh, .int .i64 tsd, .int .i64 tsp, .int .i64 teu, .int .i64 tes, .int .i64 teh, .int .i64 tea, .int .i64 ten, .int .i64 tfu, .int .i64 tfs, .int .i64 tfh, .int .i64 tfa, .int .i64 tfn, .slice BL tm tc]) := below_setRow (Below.refl _ _) (Nat.le_refl _) _
  have KL2 : Hid ((V10.setRow w9.heap.size #[.int .i64 tst, .int .i64 tsh, .int .i64 tsd, .int .i64 tsp, .int .i64 teu, .int .i64 tes, .int .i64 teh, .int .i64 tea, .int .i64 ten, .int .i64 tfu, .int .i64 tfs, .int .i64 tfh, .int .i64 tfa, .int .i64 tfn, .slice BL tm tc]).heap[w9.heap.size]? = some (.cells #[.int .i64 tst, .int .i64 tsh, .int .i64 tsd, .int .i64 tsp, .int .i64 teu, .int .i64 tes, .int .i64 teh, .int .i64 tea, .int .i64 ten, .int .i64 tfu, .int .i64 tfs, .int .i64 tfh, .int .i64 tfa, .int .i64 tfn, .slice BL tm tc] 30)) := setRow_heap _ _ _ _ _ _ KL.out
  have BT2 := Lib.hid (BT.out.below (bs.mono (by omega)))
  have K2 := Lib.hid (K.out.trans (bs.mono (by omega)))
  have LG2 := Lib.hid (LG.out.heap (w' := (V10.setRow w9.heap.size #[.int .i64 tst, .int .i64 tsh, .int .i64 tsd, .int .i64 tsp, .int .i64 teu, .int .i64 tes, .int .i64 teh, .int .i64 tea, .int .i64 ten, .int .i64 tfu, .int .i64 tfs, .int .i64 tfh, .int .i64 tfa, .int .i64 tfn, .slice BL tm tc])) (fun k e => setRow_other _ _ _ _ (by have := hlLG k e; omega)))
  have KS2 := Lib.hid (show (V10.setRow w9.heap.size #[.int .i64 tst, .int .i64 tsh, .int .i64 tsd, .int .i64 tsp, .int .i64 teu, .int .i64 tes, .int .i64 teh, .int .i64 tea, .int .i64 ten, .int .i64 tfu, .int .i64 tfs, .int .i64 tfh, .int .i64 tfa, .int .i64 tfn, .slice BL tm tc]).heap[_]? = _ from (setRow_other _ _ _ _ (by omega)).trans KS.out)
  have KB2 := Lib.hid (show (V10.setRow w9.heap.size #[.int .i64 tst, .int .i64 tsh, .int .i64 tsd, .int .i64 tsp, .int .i64 teu, .int .i64 tes, .int .i64 teh, .int .i64 tea, .int .i64 ten, .int .i64 tfu, .int .i64 tfs, .int .i64 tfh, .int .i64 tfa, .int .i64 tfn, .slice BL tm tc]).heap[_]? = _ from (setRow_other _ _ _ _ (by omega)).trans KB.out)
  have OA2 := Lib.hid (OA.out.heap (w' := (V10.setRow w9.heap.size #[.int .i64 tst, .int .i64 tsh, .int .i64 tsd, .int .i64 tsp, .int .i64 teu, .int .i64 tes, .int .i64 teh, .int .i64 tea, .int .i64 ten, .int .i64 tfu, .int .i64 tfs, .int .i64 tfh, .int .i64 tfa, .int .i64 tfn, .slice BL tm tc])) (fun k e => setRow_other _ _ _ _ (by have := hlOA k e; omega)))
  have KX2 := Lib.hid (show (V10.setRow w9.heap.size #[.int .i64 tst, .int .i64 tsh, .int .i64 tsd, .int .i64 tsp, .int .i64 teu, .int .i64 tes, .int .i64 teh, .int .i64 tea, .int .i64 ten, .int .i64 tfu, .int .i64 tfs, .int .i64 tfh, .int .i64 tfa, .int .i64 tfn, .slice BL tm tc]).heap[_]? = _ from (setRow_other _ _ _ _ (by omega)).trans KX.out)
  have KN2 := Lib.hid (show (V10.setRow w9.heap.size #[.int .i64 tst, .int .i64 tsh, .int .i64 tsd, .int .i64 tsp, .int .i64 teu, .int .i64 tes, .int .i64 teh, .int .i64 tea, .int .i64 ten, .int .i64 tfu, .int .i64 tfs, .int .i64 tfh, .int .i64 tfa, .int .i64 tfn, .slice BL tm tc]).heap[_]? = _ from (setRow_other _ _ _ _ (by omega)).trans KN.out)
  have LT2 := Lib.hid (LT.out.heap (w' := (V10.setRow w9.heap.size #[.int .i64 tst, .int .i64 tsh, .int .i64 tsd, .int .i64 tsp, .int .i64 teu, .int .i64 tes, .int .i64 teh, .int .i64 tea, .int .i64 ten, .int .i64 tfu, .int .i64 tfs, .int .i64 tfh, .int .i64 tfa, .int .i64 tfn, .slice BL tm tc])) (fun k e => setRow_other _ _ _ _ (by have := hlLT k e; omega)))
  have sR := bs.size
  go_wp2_with (first | (refine wpList_load_row rfl 30 _ rfl (w1.heap.size) rfl 30 _ (0, 0) _ KS2.out Tryz.underlying30 rfl (by kernel_rfl) ?_) | (refine wpList_load_row rfl 32 _ rfl (V2.heap.size) rfl 32 _ (0, 0) _ KB2.out Tryz.underlying32 rfl (by kernel_rfl) ?_) | (refine wpList_store_row rfl 30 _ _ rfl (w9.heap.size) #[.int .i64 tst, .int .i64 tsh, .int .i64 tsd, .int .i64 tsp, .int .i64 teu, .int .i64 tes, .int .i64 teh, .int .i64 tea, .int .i64 ten, .int .i64 tfu, .int .i64 tfs, .int .i64 tfh, .int .i64 tfa, .int .i64 tfn, .slice BL tm tc] rfl rfl 30 _ KLo.out (by kernel_rfl) rfl (by simp [Value.oneCell']) ?_))
  clear hV10 
  generalize (V10.setRow w9.heap.size #[.int .i64 tst, .int .i64 tsh, .int .i64 tsd, .int .i64 tsp, .int .i64 teu, .int .i64 tes, .int .i64 teh, .int .i64 tea, .int .i64 ten, .int .i64 tfu, .int .i64 tfs, .int .i64 tfh, .int .i64 tfa, .int .i64 tfn, .slice BL tm tc]) = S10 at KL2 BT2 K2 LG2 KS2 KB2 OA2 KX2 KN2 LT2 sR ⊢
  clear bs KLo KL BT K LG KS KB OA KX KN LT
  have KL := KL2
  have BT := BT2
  have K := K2
  have LG := LG2
  have KS := KS2
  have KB := KB2
  have OA := OA2
  have KX := KX2
  have KN := KN2
  have LT := LT2
  clear KL2 BT2 K2 LG2 KS2 KB2 OA2 KX2 KN2 LT2
  have sSS10 : V10.heap.size ≤ S10.heap.size := sR
  clear sR
  have hh : Calls Tryz.prog 10 #[.agg #[.int .i64 st, .int .i64 sh, .int .i64 sd, .int .i64 sp, .int .i64 eu, .int .i64 es, .int .i64 eh, .int .i64 ea, .int .i64 en, .int .i64 fu, .int .i64 fs, .int .i64 fh, .int .i64 fa, .int .i64 fn, .slice B m mc], .agg #[.int .i64 xu, .int .i64 xs, .int .i64 xh, .int .i64 xa, .int .i64 xn, .string xt, .bool xp]] S10 fun e w' => ∃ (B : Option Addr) (c : Nat), e = .returned (.tuple #[.agg #[.int .i64 rst, .int .i64 rsh, .int .i64 rsd, .int .i64 rsp, .int .i64 reu, .int .i64 res, .int .i64 reh, .int .i64 rea, .int .i64 ren, .int .i64 rfu, .int .i64 rfs, .int .i64 rfh, .int .i64 rfa, .int .i64 rfn, .slice B ol.length c], .int .i64 y]) ∧ Tx.OutE w' S10.heap.size 49 B ol.length c ol ∧ Below S10.heap.size S10 w' := by
    have h1 := Tx.Hears_spec ⟨st, sh, sd, sp, ⟨⟨eu, es, eh, ea⟩, en⟩, ⟨⟨fu, fs, fh, fa⟩, fn⟩⟩ B m mc l ⟨⟨xu, xs, xh, xa⟩, xn, xt, xp⟩ S10 LG.out.elts hzc (by omega)
    rw [HR.out, HY.out, HO.out] at h1
    exact h1.mono fun e w' ⟨B, m2, c, he, ho, hb⟩ => by
      have hm2 := ho.out.len
      subst hm2
      exact ⟨B, c, he, ho.out, hb⟩
  refine (hh).mono ?_
  rintro e w11 ⟨B2, c2, rfl, ho, b⟩
  replace BT := Lib.hid (BT.out.below (b.mono K.out.size))
  replace K := Lib.hid (K.out.trans (b.mono K.out.size))
  replace LG := Lib.hid (LG.out.on b)
  replace KS := Lib.hid (Tx.blk_on b KS.out)
  replace KB := Lib.hid (Tx.blk_on b KB.out)
  replace OA := Lib.hid (OA.out.on b)
  replace KX := Lib.hid (Tx.blk_on b KX.out)
  replace KN := Lib.hid (Tx.blk_on b KN.out)
  replace LT := Lib.hid (LT.out.on b)
  replace KL := Lib.hid (Tx.blk_on b KL.out)
  have sw11 := b.size
  have OB0 := Lib.hid ho
  have hlOB0 := ho
  clear ho
  clear hh
  clear b
  have hlOB : ∀ k, Tx.blkA B2 = some k → k < w11.heap.size := fun k e => (hlOB0.lt e).2
  clear hlOB0
  have OB := OB0
  clear OB0
  obtain ⟨V12, hV12⟩ : ∃ W, w11.alloc (.cells #[.int .i64 0, .int .i64 0, .int .i64 0, .int .i64 0, .int .i64 0, .int .i64 0, .int .i64 0, .int .i64 0, .int .i64 0, .int .i64 0, .int .i64 0, .int .i64 0, .int .i64 0, .int .i64 0, .slice none 0 0] 30) = W := ⟨_, rfl⟩
  replace BT := Lib.hid (BT.out.below ((Below.refl _ _).alloc K.out.size (.cells #[.int .i64 0, .int .i64 0, .int .i64 0, .int .i64 0, .int .i64 0, .int .i64 0, .int .i64 0, .int .i64 0, .int .i64 0, .int .i64 0, .int .i64 0, .int .i64 0, .int .i64 0, .int .i64 0, .slice none 0 0] 30)))
  replace K := Lib.hid (K.out.alloc K.out.size (.cells #[.int .i64 0, .int .i64 0, .int .i64 0, .int .i64 0, .int .i64 0, .int .i64 0, .int .i64 0, .int .i64 0, .int .i64 0, .int .i64 0, .int .i64 0, .int .i64 0, .int .i64 0, .int .i64 0, .slice none 0 0] 30))
  replace LG := Lib.hid (LG.out.on ((Below.refl _ _).alloc (Nat.le_refl _) (.cells #[.int .i64 0, .int .i64 0, .int .i64 0, .int .i64 0, .int .i64 0, .int .i64 0, .int .i64 0, .int .i64 0, .int .i64 0, .int .i64 0, .int .i64 0, .int .i64 0, .int .i64 0, .int .i64 0, .slice none 0 0] 30)))
  replace KS := Lib.hid (Tx.alloc_blk (o := .cells #[.int .i64 0, .int .i64 0, .int .i64 0, .int .i64 0, .int .i64 0, .int .i64 0, .int .i64 0, .int .i64 0, .int .i64 0, .int .i64 0, .int .i64 0, .int .i64 0, .int .i64 0, .int .i64 0, .slice none 0 0] 30) KS.out)
  replace KB := Lib.hid (Tx.alloc_blk (o := .cells #[.int .i64 0, .int .i64 0, .int .i64 0, .int .i64 0, .int .i64 0, .int .i64 0, .int .i64 0, .int .i64 0, .int .i64 0, .int .i64 0, .int .i64 0, .int .i64 0, .int .i64 0, .int .i64 0, .slice none 0 0] 30) KB.out)
  replace OA := Lib.hid (OA.out.on ((Below.refl _ _).alloc (Nat.le_refl _) (.cells #[.int .i64 0, .int .i64 0, .int .i64 0, .int .i64 0, .int .i64 0, .int .i64 0, .int .i64 0, .int .i64 0, .int .i64 0, .int .i64 0, .int .i64 0, .int .i64 0, .int .i64 0, .int .i64 0, .slice none 0 0] 30)))
  replace KX := Lib.hid (Tx.alloc_blk (o := .cells #[.int .i64 0, .int .i64 0, .int .i64 0, .int .i64 0, .int .i64 0, .int .i64 0, .int .i64 0, .int .i64 0, .int .i64 0, .int .i64 0, .int .i64 0, .int .i64 0, .int .i64 0, .int .i64 0, .slice none 0 0] 30) KX.out)
  replace KN := Lib.hid (Tx.alloc_blk (o := .cells #[.int .i64 0, .int .i64 0, .int .i64 0, .int .i64 0, .int .i64 0, .int .i64 0, .int .i64 0, .int .i64 0, .int .i64 0, .int .i64 0, .int .i64 0, .int .i64 0, .int .i64 0, .int .i64 0, .slice none 0 0] 30) KN.out)
  replace LT := Lib.hid (LT.out.on ((Below.refl _ _).alloc (Nat.le_refl _) (.cells #[.int .i64 0, .int .i64 0, .int .i64 0, .int .i64 0, .int .i64 0, .int .i64 0, .int .i64 0, .int .i64 0, .int .i64 0, .int .i64 0, .int .i64 0, .int .i64 0, .int .i64 0, .int .i64 0, .slice none 0 0] 30)))
  replace KL := Lib.hid (Tx.alloc_blk (o := .cells #[.int .i64 0, .int .i64 0, .int .i64 0, .int .i64 0, .int .i64 0, .int .i64 0, .int .i64 0, .int .i64 0, .int .i64 0, .int .i64 0, .int .i64 0, .int .i64 0, .int .i64 0, .int .i64 0, .slice none 0 0] 30) KL.out)
  replace OB := Lib.hid (OB.out.on ((Below.refl _ _).alloc (Nat.le_refl _) (.cells #[.int .i64 0, .int .i64 0, .int .i64 0, .int .i64 0, .int .i64 0, .int .i64 0, .int .i64 0, .int .i64 0, .int .i64 0, .int .i64 0, .int .i64 0, .int .i64 0, .int .i64 0, .int .i64 0, .slice none 0 0] 30)))
  have KY := Lib.hid (Tx.heap1 w11 (.cells #[.int .i64 0, .int .i64 0, .int .i64 0, .int .i64 0, .int .i64 0, .int .i64 0, .int .i64 0, .int .i64 0, .int .i64 0, .int .i64 0, .int .i64 0, .int .i64 0, .int .i64 0, .int .i64 0, .slice none 0 0] 30))
  rw [hV12] at BT K LG KS KB OA KX KN LT KL OB KY
  have sV12 : w11.heap.size < V12.heap.size := by rw [← hV12]; simp
  have KYo := KY
  have bs : Below w11.heap.size V12 (V12.setRow w11.heap.size #[.int .i64 rst, .int .i64 rsh, .int .i64 rsd, .int .i64 rsp, .int .i64 reu, .int .i64 res, .int .i64 reh, .int .i64 rea, .int .i64 ren, .int .i64 rfu, .int .i64 rfs, .int .i64 rfh, .int .i64 rfa, .int .i64 rfn, .slice B2 ol.length c2]) := below_setRow (Below.refl _ _) (Nat.le_refl _) _
  have KY2 : Hid ((V12.setRow w11.heap.size #[.int .i64 rst, .int .i64 rsh, .int .i64 rsd, .int .i64 rsp, .int .i64 reu, .int .i64 res, .int .i64 reh, .int .i64 rea, .int .i64 ren, .int .i64 rfu, .int .i64 rfs, .int .i64 rfh, .int .i64 rfa, .int .i64 rfn, .slice B2 ol.length c2]).heap[w11.heap.size]? = some (.cells #[.int .i64 rst, .int .i64 rsh, .int .i64 rsd, .int .i64 rsp, .int .i64 reu, .int .i64 res, .int .i64 reh, .int .i64 rea, .int .i64 ren, .int .i64 rfu, .int .i64 rfs, .int .i64 rfh, .int .i64 rfa, .int .i64 rfn, .slice B2 ol.length c2] 30)) := setRow_heap _ _ _ _ _ _ KY.out
  have BT2 := Lib.hid (BT.out.below (bs.mono (by omega)))
  have K2 := Lib.hid (K.out.trans (bs.mono (by omega)))
  have LG2 := Lib.hid (LG.out.heap (w' := (V12.setRow w11.heap.size #[.int .i64 rst, .int .i64 rsh, .int .i64 rsd, .int .i64 rsp, .int .i64 reu, .int .i64 res, .int .i64 reh, .int .i64 rea, .int .i64 ren, .int .i64 rfu, .int .i64 rfs, .int .i64 rfh, .int .i64 rfa, .int .i64 rfn, .slice B2 ol.length c2])) (fun k e => setRow_other _ _ _ _ (by have := hlLG k e; omega)))
  have KS2 := Lib.hid (show (V12.setRow w11.heap.size #[.int .i64 rst, .int .i64 rsh, .int .i64 rsd, .int .i64 rsp, .int .i64 reu, .int .i64 res, .int .i64 reh, .int .i64 rea, .int .i64 ren, .int .i64 rfu, .int .i64 rfs, .int .i64 rfh, .int .i64 rfa, .int .i64 rfn, .slice B2 ol.length c2]).heap[_]? = _ from (setRow_other _ _ _ _ (by omega)).trans KS.out)
  have KB2 := Lib.hid (show (V12.setRow w11.heap.size #[.int .i64 rst, .int .i64 rsh, .int .i64 rsd, .int .i64 rsp, .int .i64 reu, .int .i64 res, .int .i64 reh, .int .i64 rea, .int .i64 ren, .int .i64 rfu, .int .i64 rfs, .int .i64 rfh, .int .i64 rfa, .int .i64 rfn, .slice B2 ol.length c2]).heap[_]? = _ from (setRow_other _ _ _ _ (by omega)).trans KB.out)
  have OA2 := Lib.hid (OA.out.heap (w' := (V12.setRow w11.heap.size #[.int .i64 rst, .int .i64 rsh, .int .i64 rsd, .int .i64 rsp, .int .i64 reu, .int .i64 res, .int .i64 reh, .int .i64 rea, .int .i64 ren, .int .i64 rfu, .int .i64 rfs, .int .i64 rfh, .int .i64 rfa, .int .i64 rfn, .slice B2 ol.length c2])) (fun k e => setRow_other _ _ _ _ (by have := hlOA k e; omega)))
  have KX2 := Lib.hid (show (V12.setRow w11.heap.size #[.int .i64 rst, .int .i64 rsh, .int .i64 rsd, .int .i64 rsp, .int .i64 reu, .int .i64 res, .int .i64 reh, .int .i64 rea, .int .i64 ren, .int .i64 rfu, .int .i64 rfs, .int .i64 rfh, .int .i64 rfa, .int .i64 rfn, .slice B2 ol.length c2]).heap[_]? = _ from (setRow_other _ _ _ _ (by omega)).trans KX.out)
  have KN2 := Lib.hid (show (V12.setRow w11.heap.size #[.int .i64 rst, .int .i64 rsh, .int .i64 rsd, .int .i64 rsp, .int .i64 reu, .int .i64 res, .int .i64 reh, .int .i64 rea, .int .i64 ren, .int .i64 rfu, .int .i64 rfs, .int .i64 rfh, .int .i64 rfa, .int .i64 rfn, .slice B2 ol.length c2]).heap[_]? = _ from (setRow_other _ _ _ _ (by omega)).trans KN.out)
  have LT2 := Lib.hid (LT.out.heap (w' := (V12.setRow w11.heap.size #[.int .i64 rst, .int .i64 rsh, .int .i64 rsd, .int .i64 rsp, .int .i64 reu, .int .i64 res, .int .i64 reh, .int .i64 rea, .int .i64 ren, .int .i64 rfu, .int .i64 rfs, .int .i64 rfh, .int .i64 rfa, .int .i64 rfn, .slice B2 ol.length c2])) (fun k e => setRow_other _ _ _ _ (by have := hlLT k e; omega)))
  have KL2 := Lib.hid (show (V12.setRow w11.heap.size #[.int .i64 rst, .int .i64 rsh, .int .i64 rsd, .int .i64 rsp, .int .i64 reu, .int .i64 res, .int .i64 reh, .int .i64 rea, .int .i64 ren, .int .i64 rfu, .int .i64 rfs, .int .i64 rfh, .int .i64 rfa, .int .i64 rfn, .slice B2 ol.length c2]).heap[_]? = _ from (setRow_other _ _ _ _ (by omega)).trans KL.out)
  have OB2 := Lib.hid (OB.out.heap (w' := (V12.setRow w11.heap.size #[.int .i64 rst, .int .i64 rsh, .int .i64 rsd, .int .i64 rsp, .int .i64 reu, .int .i64 res, .int .i64 reh, .int .i64 rea, .int .i64 ren, .int .i64 rfu, .int .i64 rfs, .int .i64 rfh, .int .i64 rfa, .int .i64 rfn, .slice B2 ol.length c2])) (fun k e => setRow_other _ _ _ _ (by have := hlOB k e; omega)))
  have sR := bs.size
  go_wp2_with (first | (refine wpList_store_row rfl 30 _ _ rfl (w11.heap.size) #[.int .i64 rst, .int .i64 rsh, .int .i64 rsd, .int .i64 rsp, .int .i64 reu, .int .i64 res, .int .i64 reh, .int .i64 rea, .int .i64 ren, .int .i64 rfu, .int .i64 rfs, .int .i64 rfh, .int .i64 rfa, .int .i64 rfn, .slice B2 ol.length c2] rfl rfl 30 _ KYo.out (by kernel_rfl) rfl (by simp [Value.oneCell']) ?_))
  clear hV12 
  generalize (V12.setRow w11.heap.size #[.int .i64 rst, .int .i64 rsh, .int .i64 rsd, .int .i64 rsp, .int .i64 reu, .int .i64 res, .int .i64 reh, .int .i64 rea, .int .i64 ren, .int .i64 rfu, .int .i64 rfs, .int .i64 rfh, .int .i64 rfa, .int .i64 rfn, .slice B2 ol.length c2]) = S12 at KY2 BT2 K2 LG2 KS2 KB2 OA2 KX2 KN2 LT2 KL2 OB2 sR ⊢
  clear bs KYo KY BT K LG KS KB OA KX KN LT KL OB
  have KY := KY2
  have BT := BT2
  have K := K2
  have LG := LG2
  have KS := KS2
  have KB := KB2
  have OA := OA2
  have KX := KX2
  have KN := KN2
  have LT := LT2
  have KL := KL2
  have OB := OB2
  clear KY2 BT2 K2 LG2 KS2 KB2 OA2 KX2 KN2 LT2 KL2 OB2
  have sSS12 : V12.heap.size ≤ S12.heap.size := sR
  clear sR
  obtain ⟨zs, hzs⟩ : ∃ o, Tx.seatOkB ⟨st, sh, sd, sp, ⟨⟨eu, es, eh, ea⟩, en⟩, ⟨⟨fu, fs, fh, fa⟩, fn⟩⟩ m = o := ⟨_, rfl⟩
  obtain ⟨sst, hss⟩ : ∃ o, lt.map Tx.WordV.t = o := ⟨_, rfl⟩
  obtain ⟨ee, hee⟩ : ∃ o : Int, ((Tx.earlyN lt : Nat) : Int) = o := ⟨_, rfl⟩
  have hssl : sst.length ≤ 100 := by rw [← hss, List.length_map, htl]; exact htm
  have hyy : (y != y) = false := by simp
  have hzz : (zs != zs) = false := by simp
  have hen : (ee != ee) = false := by simp
  have cO : Hid (∀ w' : World, Tx.EltsO w' w'.heap.size B m l → Calls Tryz.prog 12 #[.agg #[.int .i64 st, .int .i64 sh, .int .i64 sd, .int .i64 sp, .int .i64 eu, .int .i64 es, .int .i64 eh, .int .i64 ea, .int .i64 en, .int .i64 fu, .int .i64 fs, .int .i64 fh, .int .i64 fa, .int .i64 fn, .slice B m mc]] w' fun e w'' => e = .returned (.bool zs) ∧ Below w'.heap.size w' w'') := fun w' hE => by
    have h1 := Tx.SeatOk_impl ⟨st, sh, sd, sp, ⟨⟨eu, es, eh, ea⟩, en⟩, ⟨⟨fu, fs, fh, fa⟩, fn⟩⟩ B m mc l w' hE (by omega)
    rwa [hzs] at h1
  have cP : Hid (∀ w' : World, Calls Tryz.prog 13 #[.agg #[.int .i64 st, .int .i64 sh, .int .i64 sd, .int .i64 sp, .int .i64 eu, .int .i64 es, .int .i64 eh, .int .i64 ea, .int .i64 en, .int .i64 fu, .int .i64 fs, .int .i64 fh, .int .i64 fa, .int .i64 fn, .slice B m mc]] w' fun e w'' => e = .returned (.bool zs) ∧ Below w'.heap.size w' w'') := fun w' => by
    have h1 := Tx.SeatOk_spec ⟨st, sh, sd, sp, ⟨⟨eu, es, eh, ea⟩, en⟩, ⟨⟨fu, fs, fh, fa⟩, fn⟩⟩ B m mc w'
    rwa [hzs] at h1
  have cL : Hid (∀ w' : World, Tx.EltsO w' w'.heap.size BL tm lt → Calls Tryz.prog 15 #[.agg #[.int .i64 tst, .int .i64 tsh, .int .i64 tsd, .int .i64 tsp, .int .i64 teu, .int .i64 tes, .int .i64 teh, .int .i64 tea, .int .i64 ten, .int .i64 tfu, .int .i64 tfs, .int .i64 tfh, .int .i64 tfa, .int .i64 tfn, .slice BL tm tc]] w' fun e w'' => ∃ gb cb, e = .returned (.slice (some ⟨gb, 0, none⟩) sst.length cb) ∧ Tx.MadeE w'' w'.heap.size 9 sst gb cb ∧ Below w'.heap.size w' w'') := fun w' hE => by
    have h1 := Tx.LogOf_impl ⟨tst, tsh, tsd, tsp, ⟨⟨teu, tes, teh, tea⟩, ten⟩, ⟨⟨tfu, tfs, tfh, tfa⟩, tfn⟩⟩ BL tm tc lt w' hE (by omega)
    rwa [hss] at h1
  have cM : Hid (∀ w' : World, Tx.EltsO w' w'.heap.size BL tm lt → Calls Tryz.prog 16 #[.agg #[.int .i64 tst, .int .i64 tsh, .int .i64 tsd, .int .i64 tsp, .int .i64 teu, .int .i64 tes, .int .i64 teh, .int .i64 tea, .int .i64 ten, .int .i64 tfu, .int .i64 tfs, .int .i64 tfh, .int .i64 tfa, .int .i64 tfn, .slice BL tm tc]] w' fun e w'' => ∃ gb cb, e = .returned (.slice (some ⟨gb, 0, none⟩) sst.length cb) ∧ Tx.MadeE w'' w'.heap.size 9 sst gb cb ∧ Below w'.heap.size w' w'') := fun w' hE => by
    have h1 := Tx.LogOf_spec ⟨tst, tsh, tsd, tsp, ⟨⟨teu, tes, teh, tea⟩, ten⟩, ⟨⟨tfu, tfs, tfh, tfa⟩, tfn⟩⟩ BL tm tc lt w' hE (by omega)
    rwa [hss] at h1
  have cE : Hid (∀ w' : World, Tx.EltsO w' w'.heap.size BL tm lt → Calls Tryz.prog 17 #[.agg #[.int .i64 tst, .int .i64 tsh, .int .i64 tsd, .int .i64 tsp, .int .i64 teu, .int .i64 tes, .int .i64 teh, .int .i64 tea, .int .i64 ten, .int .i64 tfu, .int .i64 tfs, .int .i64 tfh, .int .i64 tfa, .int .i64 tfn, .slice BL tm tc]] w' fun e w'' => e = .returned (.int .i64 ee) ∧ Below w'.heap.size w' w'') := fun w' hE => by
    have h1 := Tx.EarlyIn_impl ⟨tst, tsh, tsd, tsp, ⟨⟨teu, tes, teh, tea⟩, ten⟩, ⟨⟨tfu, tfs, tfh, tfa⟩, tfn⟩⟩ BL tm tc lt w' hE (by omega)
    rwa [hee] at h1
  have cF : Hid (∀ w' : World, Tx.EltsO w' w'.heap.size BL tm lt → Calls Tryz.prog 18 #[.agg #[.int .i64 tst, .int .i64 tsh, .int .i64 tsd, .int .i64 tsp, .int .i64 teu, .int .i64 tes, .int .i64 teh, .int .i64 tea, .int .i64 ten, .int .i64 tfu, .int .i64 tfs, .int .i64 tfh, .int .i64 tfa, .int .i64 tfn, .slice BL tm tc]] w' fun e w'' => e = .returned (.int .i64 ee) ∧ Below w'.heap.size w' w'') := fun w' hE => by
    have h1 := Tx.EarlyIn_spec ⟨tst, tsh, tsd, tsp, ⟨⟨teu, tes, teh, tea⟩, ten⟩, ⟨⟨tfu, tfs, tfh, tfa⟩, tfn⟩⟩ BL tm tc lt w' hE (by omega)
    rwa [hee] at h1
  clear hss hee
  refine Tx.wp_region_own (W := S12) [] (fun _ => True) Tx.stays_true trivial [0, 0, 1, 0, 0, 0, 0, 0, 0, 0, 0, 1, 0, 1, 0, 0, 0, 0, 1, 0, 1, 1, 0, 0, 0, 0, 1, 0, 1, 0, 0] (by kernel_rfl) (by kernel_rfl) (by kernel_rfl) ?_
  refine Tx.wpO_load_row rfl 30 _ rfl (w4.heap.size) rfl 30 _ (0, 0) _ (fun q => q.block KX.out (by simp)) Tryz.underlying30 rfl (by kernel_rfl) ?_
  simp only [Act.put, List.setIfInBounds_toArray, List.set_cons_succ, List.set_cons_zero]
  refine Tx.wpO_load_row rfl 30 _ rfl (w11.heap.size) rfl 30 _ (0, 0) _ (fun q => q.block KY.out (by simp)) Tryz.underlying30 rfl (by kernel_rfl) ?_
  simp only [Act.put, List.setIfInBounds_toArray, List.set_cons_succ, List.set_cons_zero]
  refine Tx.wpO_call (f := 11) (args := #[.agg #[.int .i64 rst, .int .i64 rsh, .int .i64 rsd, .int .i64 rsp, .int .i64 reu, .int .i64 res, .int .i64 reh, .int .i64 rea, .int .i64 ren, .int .i64 rfu, .int .i64 rfs, .int .i64 rfh, .int .i64 rfa, .int .i64 rfn, .slice B1 ol.length c1], .agg #[.int .i64 rst, .int .i64 rsh, .int .i64 rsd, .int .i64 rsp, .int .i64 reu, .int .i64 res, .int .i64 reh, .int .i64 rea, .int .i64 ren, .int .i64 rfu, .int .i64 rfs, .int .i64 rfh, .int .i64 rfa, .int .i64 rfn, .slice B2 ol.length c2]]) (.bool true) rfl (fun w' => by simp [go_sem]) (fun w' hw hF => Tx.likeSeat_same ⟨rst, rsh, rsd, rsp, ⟨⟨reu, res, reh, rea⟩, ren⟩, ⟨⟨rfu, rfs, rfh, rfa⟩, rfn⟩⟩ B1 B2 ol.length c1 c2 ol w' (OA.out.on (Tx.kept_below hw)).elts (OB.out.on (Tx.kept_below hw)).elts (by omega)) ?_
  simp only [Act.put, List.setIfInBounds_toArray, List.set_cons_succ, List.set_cons_zero]
  refine Tx.wpO_quiet 7 rfl (by kernel_rfl) ?_
  simp only [List.take, List.drop]
  repeat (go_big_quiet_step (fail))
  refine wpQuiet_nil ?_
  refine Tx.wpO_load_row rfl 30 _ rfl (w1.heap.size) rfl 30 _ (0, 0) _ (fun q => q.block KS.out (by simp)) Tryz.underlying30 rfl (by kernel_rfl) ?_
  simp only [Act.put, List.setIfInBounds_toArray, List.set_cons_succ, List.set_cons_zero]
  refine Tx.wpO_call (f := 12) (args := #[.agg #[.int .i64 st, .int .i64 sh, .int .i64 sd, .int .i64 sp, .int .i64 eu, .int .i64 es, .int .i64 eh, .int .i64 ea, .int .i64 en, .int .i64 fu, .int .i64 fs, .int .i64 fh, .int .i64 fa, .int .i64 fn, .slice B m mc]]) (.bool zs) rfl (fun w' => by simp [go_sem]) (fun w' hw hF => cO.out w' (LG.out.on (Tx.kept_below hw)).elts) ?_
  simp only [Act.put, List.setIfInBounds_toArray, List.set_cons_succ, List.set_cons_zero]
  refine Tx.wpO_load_row rfl 30 _ rfl (w1.heap.size) rfl 30 _ (0, 0) _ (fun q => q.block KS.out (by simp)) Tryz.underlying30 rfl (by kernel_rfl) ?_
  simp only [Act.put, List.setIfInBounds_toArray, List.set_cons_succ, List.set_cons_zero]
  refine Tx.wpO_call (f := 13) (args := #[.agg #[.int .i64 st, .int .i64 sh, .int .i64 sd, .int .i64 sp, .int .i64 eu, .int .i64 es, .int .i64 eh, .int .i64 ea, .int .i64 en, .int .i64 fu, .int .i64 fs, .int .i64 fh, .int .i64 fa, .int .i64 fn, .slice B m mc]]) (.bool zs) rfl (fun w' => by simp [go_sem]) (fun w' hw hF => cP.out w') ?_
  simp only [Act.put, List.setIfInBounds_toArray, List.set_cons_succ, List.set_cons_zero]
  refine Tx.wpO_quiet 3 rfl (by kernel_rfl) ?_
  simp only [List.take, List.drop]
  repeat (go_big_quiet_step (fail))
  refine wpQuiet_nil ?_
  refine Tx.wpO_load_row rfl 30 _ rfl (w9.heap.size) rfl 30 _ (0, 0) _ (fun q => q.block KL.out (by simp)) Tryz.underlying30 rfl (by kernel_rfl) ?_
  simp only [Act.put, List.setIfInBounds_toArray, List.set_cons_succ, List.set_cons_zero]
  refine Tx.wpO_callx (f := 15) (args := #[.agg #[.int .i64 tst, .int .i64 tsh, .int .i64 tsd, .int .i64 tsp, .int .i64 teu, .int .i64 tes, .int .i64 teh, .int .i64 tea, .int .i64 ten, .int .i64 tfu, .int .i64 tfs, .int .i64 tfh, .int .i64 tfa, .int .i64 tfn, .slice BL tm tc]]) (α := Nat × Nat) (fun z => .slice (some ⟨z.1, 0, none⟩) sst.length z.2) (fun z => [z.1]) (fun z w' => Tx.MadeE w' S12.heap.size 9 sst z.1 z.2) rfl (fun w' => by simp [go_sem]) (fun z w1 w2 hw h b => h.below b) (fun G => ?_) (fun w' hw hF => ?_) (fun z hz => ?_)
  · obtain ⟨g, hg, hn⟩ := Tx.fresh_above S12.heap.size G
    exact ⟨(g, 0), fun k hk => by simp at hk; subst hk; exact ⟨hg, hn⟩⟩
  · exact (cL.out w' (LT.out.on (Tx.kept_below hw)).elts).mono fun e w'' ⟨gb, cb, he, m1, b1⟩ => ⟨(gb, cb), he, m1.mono (Tx.kept_below hw).size, b1, fun k hk => by simp at hk; subst hk; exact m1.base⟩
  obtain ⟨ga, ca⟩ := z
  dsimp only
  simp only [Act.put, List.setIfInBounds_toArray, List.set_cons_succ, List.set_cons_zero]
  refine Tx.wpO_load_row rfl 30 _ rfl (w9.heap.size) rfl 30 _ (0, 0) _ (fun q => q.block KL.out (by simp)) Tryz.underlying30 rfl (by kernel_rfl) ?_
  simp only [Act.put, List.setIfInBounds_toArray, List.set_cons_succ, List.set_cons_zero]
  refine Tx.wpO_callx (f := 16) (args := #[.agg #[.int .i64 tst, .int .i64 tsh, .int .i64 tsd, .int .i64 tsp, .int .i64 teu, .int .i64 tes, .int .i64 teh, .int .i64 tea, .int .i64 ten, .int .i64 tfu, .int .i64 tfs, .int .i64 tfh, .int .i64 tfa, .int .i64 tfn, .slice BL tm tc]]) (α := Nat × Nat) (fun z => .slice (some ⟨z.1, 0, none⟩) sst.length z.2) (fun z => [z.1]) (fun z w' => Tx.MadeE w' S12.heap.size 9 sst z.1 z.2) rfl (fun w' => by simp [go_sem]) (fun z w1 w2 hw h b => h.below b) (fun G => ?_) (fun w' hw hF => ?_) (fun z hz => ?_)
  · obtain ⟨g, hg, hn⟩ := Tx.fresh_above S12.heap.size G
    exact ⟨(g, 0), fun k hk => by simp at hk; subst hk; exact ⟨hg, hn⟩⟩
  · exact (cM.out w' (LT.out.on (Tx.kept_below hw)).elts).mono fun e w'' ⟨gb, cb, he, m1, b1⟩ => ⟨(gb, cb), he, m1.mono (Tx.kept_below hw).size, b1, fun k hk => by simp at hk; subst hk; exact m1.base⟩
  obtain ⟨gb, cb⟩ := z
  dsimp only
  simp only [Act.put, List.setIfInBounds_toArray, List.set_cons_succ, List.set_cons_zero]
  refine Tx.wpO_call (f := 14) (args := #[.slice (some ⟨ga, 0, none⟩) sst.length ca, .slice (some ⟨gb, 0, none⟩) sst.length cb]) (.bool true) rfl (fun w' => by simp [go_sem]) (fun w' hw hF => ?_) ?_
  · refine (Tx.likeTexts_any _ _ sst.length sst.length ca cb sst sst w' (Tx.MadeG.elts hF.1.2).strs (Tx.MadeG.elts hF.2).strs (by omega) (by omega)).mono ?_
    rintro e w'' ⟨he, qq, rfl⟩
    exact ⟨by rw [he]; simp, ⟨rfl, rfl, rfl, Nat.le_refl _, fun _ _ => rfl⟩⟩
  simp only [Act.put, List.setIfInBounds_toArray, List.set_cons_succ, List.set_cons_zero]
  refine Tx.wpO_quiet 3 rfl (by kernel_rfl) ?_
  simp only [List.take, List.drop]
  repeat (go_big_quiet_step (fail))
  refine wpQuiet_nil ?_
  refine Tx.wpO_load_row rfl 30 _ rfl (w9.heap.size) rfl 30 _ (0, 0) _ (fun q => q.block KL.out (by simp)) Tryz.underlying30 rfl (by kernel_rfl) ?_
  simp only [Act.put, List.setIfInBounds_toArray, List.set_cons_succ, List.set_cons_zero]
  refine Tx.wpO_call (f := 17) (args := #[.agg #[.int .i64 tst, .int .i64 tsh, .int .i64 tsd, .int .i64 tsp, .int .i64 teu, .int .i64 tes, .int .i64 teh, .int .i64 tea, .int .i64 ten, .int .i64 tfu, .int .i64 tfs, .int .i64 tfh, .int .i64 tfa, .int .i64 tfn, .slice BL tm tc]]) (.int .i64 ee) rfl (fun w' => by simp [go_sem]) (fun w' hw hF => cE.out w' (LT.out.on (Tx.kept_below hw)).elts) ?_
  simp only [Act.put, List.setIfInBounds_toArray, List.set_cons_succ, List.set_cons_zero]
  refine Tx.wpO_load_row rfl 30 _ rfl (w9.heap.size) rfl 30 _ (0, 0) _ (fun q => q.block KL.out (by simp)) Tryz.underlying30 rfl (by kernel_rfl) ?_
  simp only [Act.put, List.setIfInBounds_toArray, List.set_cons_succ, List.set_cons_zero]
  refine Tx.wpO_call (f := 18) (args := #[.agg #[.int .i64 tst, .int .i64 tsh, .int .i64 tsd, .int .i64 tsp, .int .i64 teu, .int .i64 tes, .int .i64 teh, .int .i64 tea, .int .i64 ten, .int .i64 tfu, .int .i64 tfs, .int .i64 tfh, .int .i64 tfa, .int .i64 tfn, .slice BL tm tc]]) (.int .i64 ee) rfl (fun w' => by simp [go_sem]) (fun w' hw hF => cF.out w' (LT.out.on (Tx.kept_below hw)).elts) ?_
  simp only [Act.put, List.setIfInBounds_toArray, List.set_cons_succ, List.set_cons_zero]
  refine Tx.wpO_quiet 2 rfl (by kernel_rfl) ?_
  simp only [List.take, List.drop]
  repeat (go_big_quiet_step (fail))
  refine wpQuiet_nil ?_
  refine Tx.wpO_nil ?_
  rintro w13 b' _
  have b := Tx.kept_below b'
  replace BT := Lib.hid (BT.out.below (b.mono K.out.size))
  replace K := Lib.hid (K.out.trans (b.mono K.out.size))
  replace LG := Lib.hid (LG.out.on b)
  replace KS := Lib.hid (Tx.blk_on b KS.out)
  replace KB := Lib.hid (Tx.blk_on b KB.out)
  replace OA := Lib.hid (OA.out.on b)
  replace KX := Lib.hid (Tx.blk_on b KX.out)
  replace KN := Lib.hid (Tx.blk_on b KN.out)
  replace LT := Lib.hid (LT.out.on b)
  replace KL := Lib.hid (Tx.blk_on b KL.out)
  replace OB := Lib.hid (OB.out.on b)
  replace KY := Lib.hid (Tx.blk_on b KY.out)
  have sw13 := b.size
  clear b b' cO cL cM cE cF hen hyy hzz hssl
  clear LT KL OB KY
  go_wp2_with fail
  refine (hS.out _).mono ?_
  rintro e w14 ⟨rfl, b⟩
  replace BT := Lib.hid (BT.out.below (b.mono K.out.size))
  replace K := Lib.hid (K.out.trans (b.mono K.out.size))
  replace LG := Lib.hid (LG.out.on b)
  replace KS := Lib.hid (Tx.blk_on b KS.out)
  replace KB := Lib.hid (Tx.blk_on b KB.out)
  replace OA := Lib.hid (OA.out.on b)
  replace KX := Lib.hid (Tx.blk_on b KX.out)
  replace KN := Lib.hid (Tx.blk_on b KN.out)
  have sw14 := b.size
  clear hS
  clear b
  obtain ⟨V15, hV15⟩ : ∃ W, w14.alloc (.cells #[.int .i64 0, .int .i64 0, .int .i64 0, .int .i64 0, .int .i64 0, .int .i64 0, .int .i64 0, .int .i64 0, .int .i64 0, .int .i64 0, .int .i64 0, .int .i64 0, .int .i64 0, .int .i64 0, .slice none 0 0] 30) = W := ⟨_, rfl⟩
  replace BT := Lib.hid (BT.out.below ((Below.refl _ _).alloc K.out.size (.cells #[.int .i64 0, .int .i64 0, .int .i64 0, .int .i64 0, .int .i64 0, .int .i64 0, .int .i64 0, .int .i64 0, .int .i64 0, .int .i64 0, .int .i64 0, .int .i64 0, .int .i64 0, .int .i64 0, .slice none 0 0] 30)))
  replace K := Lib.hid (K.out.alloc K.out.size (.cells #[.int .i64 0, .int .i64 0, .int .i64 0, .int .i64 0, .int .i64 0, .int .i64 0, .int .i64 0, .int .i64 0, .int .i64 0, .int .i64 0, .int .i64 0, .int .i64 0, .int .i64 0, .int .i64 0, .slice none 0 0] 30))
  replace LG := Lib.hid (LG.out.on ((Below.refl _ _).alloc (Nat.le_refl _) (.cells #[.int .i64 0, .int .i64 0, .int .i64 0, .int .i64 0, .int .i64 0, .int .i64 0, .int .i64 0, .int .i64 0, .int .i64 0, .int .i64 0, .int .i64 0, .int .i64 0, .int .i64 0, .int .i64 0, .slice none 0 0] 30)))
  replace KS := Lib.hid (Tx.alloc_blk (o := .cells #[.int .i64 0, .int .i64 0, .int .i64 0, .int .i64 0, .int .i64 0, .int .i64 0, .int .i64 0, .int .i64 0, .int .i64 0, .int .i64 0, .int .i64 0, .int .i64 0, .int .i64 0, .int .i64 0, .slice none 0 0] 30) KS.out)
  replace KB := Lib.hid (Tx.alloc_blk (o := .cells #[.int .i64 0, .int .i64 0, .int .i64 0, .int .i64 0, .int .i64 0, .int .i64 0, .int .i64 0, .int .i64 0, .int .i64 0, .int .i64 0, .int .i64 0, .int .i64 0, .int .i64 0, .int .i64 0, .slice none 0 0] 30) KB.out)
  replace OA := Lib.hid (OA.out.on ((Below.refl _ _).alloc (Nat.le_refl _) (.cells #[.int .i64 0, .int .i64 0, .int .i64 0, .int .i64 0, .int .i64 0, .int .i64 0, .int .i64 0, .int .i64 0, .int .i64 0, .int .i64 0, .int .i64 0, .int .i64 0, .int .i64 0, .int .i64 0, .slice none 0 0] 30)))
  replace KX := Lib.hid (Tx.alloc_blk (o := .cells #[.int .i64 0, .int .i64 0, .int .i64 0, .int .i64 0, .int .i64 0, .int .i64 0, .int .i64 0, .int .i64 0, .int .i64 0, .int .i64 0, .int .i64 0, .int .i64 0, .int .i64 0, .int .i64 0, .slice none 0 0] 30) KX.out)
  replace KN := Lib.hid (Tx.alloc_blk (o := .cells #[.int .i64 0, .int .i64 0, .int .i64 0, .int .i64 0, .int .i64 0, .int .i64 0, .int .i64 0, .int .i64 0, .int .i64 0, .int .i64 0, .int .i64 0, .int .i64 0, .int .i64 0, .int .i64 0, .slice none 0 0] 30) KN.out)
  have KM := Lib.hid (Tx.heap1 w14 (.cells #[.int .i64 0, .int .i64 0, .int .i64 0, .int .i64 0, .int .i64 0, .int .i64 0, .int .i64 0, .int .i64 0, .int .i64 0, .int .i64 0, .int .i64 0, .int .i64 0, .int .i64 0, .int .i64 0, .slice none 0 0] 30))
  rw [hV15] at BT K LG KS KB OA KX KN KM
  have sV15 : w14.heap.size < V15.heap.size := by rw [← hV15]; simp
  have KMo := KM
  have bs : Below w14.heap.size V15 (V15.setRow w14.heap.size #[.int .i64 vst, .int .i64 vsh, .int .i64 vsd, .int .i64 vsp, .int .i64 veu, .int .i64 ves, .int .i64 veh, .int .i64 vea, .int .i64 ven, .int .i64 vfu, .int .i64 vfs, .int .i64 vfh, .int .i64 vfa, .int .i64 vfn, .slice none 0 0]) := below_setRow (Below.refl _ _) (Nat.le_refl _) _
  have KM2 : Hid ((V15.setRow w14.heap.size #[.int .i64 vst, .int .i64 vsh, .int .i64 vsd, .int .i64 vsp, .int .i64 veu, .int .i64 ves, .int .i64 veh, .int .i64 vea, .int .i64 ven, .int .i64 vfu, .int .i64 vfs, .int .i64 vfh, .int .i64 vfa, .int .i64 vfn, .slice none 0 0]).heap[w14.heap.size]? = some (.cells #[.int .i64 vst, .int .i64 vsh, .int .i64 vsd, .int .i64 vsp, .int .i64 veu, .int .i64 ves, .int .i64 veh, .int .i64 vea, .int .i64 ven, .int .i64 vfu, .int .i64 vfs, .int .i64 vfh, .int .i64 vfa, .int .i64 vfn, .slice none 0 0] 30)) := setRow_heap _ _ _ _ _ _ KM.out
  have BT2 := Lib.hid (BT.out.below (bs.mono (by omega)))
  have K2 := Lib.hid (K.out.trans (bs.mono (by omega)))
  have LG2 := Lib.hid (LG.out.heap (w' := (V15.setRow w14.heap.size #[.int .i64 vst, .int .i64 vsh, .int .i64 vsd, .int .i64 vsp, .int .i64 veu, .int .i64 ves, .int .i64 veh, .int .i64 vea, .int .i64 ven, .int .i64 vfu, .int .i64 vfs, .int .i64 vfh, .int .i64 vfa, .int .i64 vfn, .slice none 0 0])) (fun k e => setRow_other _ _ _ _ (by have := hlLG k e; omega)))
  have KS2 := Lib.hid (show (V15.setRow w14.heap.size #[.int .i64 vst, .int .i64 vsh, .int .i64 vsd, .int .i64 vsp, .int .i64 veu, .int .i64 ves, .int .i64 veh, .int .i64 vea, .int .i64 ven, .int .i64 vfu, .int .i64 vfs, .int .i64 vfh, .int .i64 vfa, .int .i64 vfn, .slice none 0 0]).heap[_]? = _ from (setRow_other _ _ _ _ (by omega)).trans KS.out)
  have KB2 := Lib.hid (show (V15.setRow w14.heap.size #[.int .i64 vst, .int .i64 vsh, .int .i64 vsd, .int .i64 vsp, .int .i64 veu, .int .i64 ves, .int .i64 veh, .int .i64 vea, .int .i64 ven, .int .i64 vfu, .int .i64 vfs, .int .i64 vfh, .int .i64 vfa, .int .i64 vfn, .slice none 0 0]).heap[_]? = _ from (setRow_other _ _ _ _ (by omega)).trans KB.out)
  have OA2 := Lib.hid (OA.out.heap (w' := (V15.setRow w14.heap.size #[.int .i64 vst, .int .i64 vsh, .int .i64 vsd, .int .i64 vsp, .int .i64 veu, .int .i64 ves, .int .i64 veh, .int .i64 vea, .int .i64 ven, .int .i64 vfu, .int .i64 vfs, .int .i64 vfh, .int .i64 vfa, .int .i64 vfn, .slice none 0 0])) (fun k e => setRow_other _ _ _ _ (by have := hlOA k e; omega)))
  have KX2 := Lib.hid (show (V15.setRow w14.heap.size #[.int .i64 vst, .int .i64 vsh, .int .i64 vsd, .int .i64 vsp, .int .i64 veu, .int .i64 ves, .int .i64 veh, .int .i64 vea, .int .i64 ven, .int .i64 vfu, .int .i64 vfs, .int .i64 vfh, .int .i64 vfa, .int .i64 vfn, .slice none 0 0]).heap[_]? = _ from (setRow_other _ _ _ _ (by omega)).trans KX.out)
  have KN2 := Lib.hid (show (V15.setRow w14.heap.size #[.int .i64 vst, .int .i64 vsh, .int .i64 vsd, .int .i64 vsp, .int .i64 veu, .int .i64 ves, .int .i64 veh, .int .i64 vea, .int .i64 ven, .int .i64 vfu, .int .i64 vfs, .int .i64 vfh, .int .i64 vfa, .int .i64 vfn, .slice none 0 0]).heap[_]? = _ from (setRow_other _ _ _ _ (by omega)).trans KN.out)
  have sR := bs.size
  go_upto_region 12 with (first | (refine wpList_store_row rfl 30 _ _ rfl (w14.heap.size) #[.int .i64 vst, .int .i64 vsh, .int .i64 vsd, .int .i64 vsp, .int .i64 veu, .int .i64 ves, .int .i64 veh, .int .i64 vea, .int .i64 ven, .int .i64 vfu, .int .i64 vfs, .int .i64 vfh, .int .i64 vfa, .int .i64 vfn, .slice none 0 0] rfl rfl 30 _ KMo.out (by kernel_rfl) rfl (by simp [Value.oneCell']) ?_))
  clear hV15 
  generalize (V15.setRow w14.heap.size #[.int .i64 vst, .int .i64 vsh, .int .i64 vsd, .int .i64 vsp, .int .i64 veu, .int .i64 ves, .int .i64 veh, .int .i64 vea, .int .i64 ven, .int .i64 vfu, .int .i64 vfs, .int .i64 vfh, .int .i64 vfa, .int .i64 vfn, .slice none 0 0]) = S15 at KM2 BT2 K2 LG2 KS2 KB2 OA2 KX2 KN2 sR ⊢
  clear bs KMo KM BT K LG KS KB OA KX KN
  have KM := KM2
  have BT := BT2
  have K := K2
  have LG := LG2
  have KS := KS2
  have KB := KB2
  have OA := OA2
  have KX := KX2
  have KN := KN2
  clear KM2 BT2 K2 LG2 KS2 KB2 OA2 KX2 KN2
  have sSS15 : V15.heap.size ≤ S15.heap.size := sR
  clear sR
  go_cut [117] (fun cc wx => cc = .bool false ∧ Hid (Below S15.heap.size S15 wx))
  case first =>
    as_aux_lemma =>
      go_wp2_with (first | (refine wpList_load_row rfl 30 _ rfl (w7.heap.size) rfl 30 _ (0, 0) _ KN.out Tryz.underlying30 rfl (by kernel_rfl) ?_) | (refine wpList_load_row rfl 30 _ rfl (w14.heap.size) rfl 30 _ (0, 0) _ KM.out Tryz.underlying30 rfl (by kernel_rfl) ?_))
      refine (Tx.likeSeat_same ⟨vst, vsh, vsd, vsp, ⟨⟨veu, ves, veh, vea⟩, ven⟩, ⟨⟨vfu, vfs, vfh, vfa⟩, vfn⟩⟩ A1 none 0 a1 0 [] _ (E0 _ _) (E0 _ _) (by omega)).mono ?_
      rintro e w16 ⟨rfl, b⟩
      have KN' := Lib.hid (Tx.blk_on b KN.out)
      have b' := Lib.hid b
      clear b
      cases nb with
      | false =>
        go_wp2
        go_meet
        exact ⟨rfl, b'⟩
      | true =>
        go_wp2_with (refine Tx.wpList_load_wanted rfl 30 _ rfl (w7.heap.size) rfl 30 _ (0, 0) _ KN'.out Tryz.underlying30 rfl (by kernel_rfl) ?_)
        have h1 := Tx.SeatOk_impl ⟨vst, vsh, vsd, vsp, ⟨⟨veu, ves, veh, vea⟩, ven⟩, ⟨⟨vfu, vfs, vfh, vfa⟩, vfn⟩⟩ A1 0 a1 [] w16 (E0 _ _) (by omega)
        rw [HN.out (by trivial)] at h1
        refine h1.mono ?_
        rintro e w17 ⟨rfl, b⟩
        replace KN' := Lib.hid (Tx.blk_on b KN'.out)
        replace b' := Lib.hid (b'.out.trans (b.mono b'.out.size))
        clear b h1
        obtain ⟨⟨k0, k1, k2, k3, k4, k5, k6, k7, k8, k9, k10, k11, k12, k13, k14⟩, _⟩ := Tx.blk15 KN'.out
        go_wp2
        go_meet
        exact ⟨rfl, b'⟩
  case rest =>
    obtain ⟨rfl, hb⟩ := hcut
    have b := hb.out
    clear hb HN hnn
    replace BT := Lib.hid (BT.out.below (b.mono K.out.size))
    replace K := Lib.hid (K.out.trans (b.mono K.out.size))
    replace LG := Lib.hid (LG.out.on b)
    replace KS := Lib.hid (Tx.blk_on b KS.out)
    replace KB := Lib.hid (Tx.blk_on b KB.out)
    replace OA := Lib.hid (OA.out.on b)
    replace KX := Lib.hid (Tx.blk_on b KX.out)
    replace KN := Lib.hid (Tx.blk_on b KN.out)
    replace KM := Lib.hid (Tx.blk_on b KM.out)
    have swc := b.size
    clear b
    clear KN KM
    go_wp2_with (refine wpList_load_row rfl 30 _ rfl (w1.heap.size) rfl 30 _ (0, 0) _ KS.out Tryz.underlying30 rfl (by kernel_rfl) ?_)
    refine (cP.out _).mono ?_
    rintro e w18 ⟨rfl, b⟩
    replace BT := Lib.hid (BT.out.below (b.mono K.out.size))
    replace K := Lib.hid (K.out.trans (b.mono K.out.size))
    replace LG := Lib.hid (LG.out.on b)
    replace KS := Lib.hid (Tx.blk_on b KS.out)
    replace KB := Lib.hid (Tx.blk_on b KB.out)
    replace OA := Lib.hid (OA.out.on b)
    replace KX := Lib.hid (Tx.blk_on b KX.out)
    have sw18 := b.size
    clear cP
    clear b
    cases zs with
    | false =>
      have hy0 : y = 0 := by rw [← HY.out]; exact Tx.hear_bad _ hzs
      subst hy0
      go_wp2
      go_ret
      exact ⟨rfl, K.out⟩
    | true =>
      have hways := Tx.hear_ways ⟨st, sh, sd, sp, ⟨⟨eu, es, eh, ea⟩, en⟩, ⟨⟨fu, fs, fh, fa⟩, fn⟩⟩ l ⟨⟨xu, xs, xh, xa⟩, xn, xt, xp⟩ (by rw [hlm]; exact hzs)
      have hright := Tx.hear_right ⟨st, sh, sd, sp, ⟨⟨eu, es, eh, ea⟩, en⟩, ⟨⟨fu, fs, fh, fa⟩, fn⟩⟩ l ⟨⟨xu, xs, xh, xa⟩, xn, xt, xp⟩ (by rw [hlm]; exact hzs)
      rw [hlm, HR.out, HY.out, HO.out] at hways
      rw [hlm, HR.out, HO.out] at hright
      have HRT := Lib.hid hright
      clear HR HY HO hzs hright
      by_cases hy0 : y = 0
      · as_aux_lemma =>
          have hw0 : ⟨rst, rsh, rsd, rsp, ⟨⟨reu, res, reh, rea⟩, ren⟩, ⟨⟨rfu, rfs, rfh, rfa⟩, rfn⟩⟩ = (⟨st, sh, sd, sp, ⟨⟨eu, es, eh, ea⟩, en⟩, ⟨⟨fu, fs, fh, fa⟩, fn⟩⟩ : Tx.SeatV) ∧ ol = l := by
            rcases hways with h | h | h | h
            · exact h.2
            · omega
            · omega
            · omega
          obtain ⟨hrs, rfl⟩ := hw0
          subst hy0
          clear hways
          have hlk : Calls Tryz.prog 11 #[.agg #[.int .i64 rst, .int .i64 rsh, .int .i64 rsd, .int .i64 rsp, .int .i64 reu, .int .i64 res, .int .i64 reh, .int .i64 rea, .int .i64 ren, .int .i64 rfu, .int .i64 rfs, .int .i64 rfh, .int .i64 rfa, .int .i64 rfn, .slice B1 ol.length c1], .agg #[.int .i64 st, .int .i64 sh, .int .i64 sd, .int .i64 sp, .int .i64 eu, .int .i64 es, .int .i64 eh, .int .i64 ea, .int .i64 en, .int .i64 fu, .int .i64 fs, .int .i64 fh, .int .i64 fa, .int .i64 fn, .slice B m mc]] w18 fun e w' => e = .returned (.bool true) ∧ Below w18.heap.size w18 w' := by
            have h1 := Tx.likeSeat_same ⟨st, sh, sd, sp, ⟨⟨eu, es, eh, ea⟩, en⟩, ⟨⟨fu, fs, fh, fa⟩, fn⟩⟩ B1 B ol.length c1 mc ol w18 OA.out.elts (by rw [hlm]; exact LG.out.elts) (by omega)
            have e1 : (⟨st, sh, sd, sp, ⟨⟨eu, es, eh, ea⟩, en⟩, ⟨⟨fu, fs, fh, fa⟩, fn⟩⟩ : Tx.SeatV).val B1 ol.length c1 = .agg #[.int .i64 rst, .int .i64 rsh, .int .i64 rsd, .int .i64 rsp, .int .i64 reu, .int .i64 res, .int .i64 reh, .int .i64 rea, .int .i64 ren, .int .i64 rfu, .int .i64 rfs, .int .i64 rfh, .int .i64 rfa, .int .i64 rfn, .slice B1 ol.length c1] := by rw [← hrs]; rfl
            rw [e1] at h1
            have e2 : Tx.SeatV.val ⟨st, sh, sd, sp, ⟨⟨eu, es, eh, ea⟩, en⟩, ⟨⟨fu, fs, fh, fa⟩, fn⟩⟩ B ol.length mc = .agg #[.int .i64 st, .int .i64 sh, .int .i64 sd, .int .i64 sp, .int .i64 eu, .int .i64 es, .int .i64 eh, .int .i64 ea, .int .i64 en, .int .i64 fu, .int .i64 fs, .int .i64 fh, .int .i64 fa, .int .i64 fn, .slice B m mc] := by rw [hlm]; rfl
            rw [e2] at h1
            exact h1
          clear hlm
          go_wp2_with (first | (refine wpList_load_row rfl 30 _ rfl (w4.heap.size) rfl 30 _ (0, 0) _ KX.out Tryz.underlying30 rfl (by kernel_rfl) ?_) | (refine wpList_load_row rfl 30 _ rfl (w1.heap.size) rfl 30 _ (0, 0) _ KS.out Tryz.underlying30 rfl (by kernel_rfl) ?_))
          refine (hlk).mono ?_
          rintro e w19 ⟨rfl, b⟩
          replace BT := Lib.hid (BT.out.below (b.mono K.out.size))
          replace K := Lib.hid (K.out.trans (b.mono K.out.size))
          replace LG := Lib.hid (LG.out.on b)
          replace KS := Lib.hid (Tx.blk_on b KS.out)
          replace KB := Lib.hid (Tx.blk_on b KB.out)
          replace OA := Lib.hid (OA.out.on b)
          replace KX := Lib.hid (Tx.blk_on b KX.out)
          have sw19 := b.size
          clear hlk
          clear b
          go_wp2
          go_ret
          exact ⟨rfl, K.out⟩
      · have hyb : (y == 0) = false := by rw [beq_eq_false_iff_ne]; exact hy0
        obtain ⟨⟨ast, ash, asd, asp, ⟨⟨aeu, aes, aeh, aea⟩, aen⟩, ⟨⟨afu, afs, afh, afa⟩, afn⟩⟩, har⟩ : ∃ o, Tx.hearS ⟨rst, rsh, rsd, rsp, ⟨⟨reu, res, reh, rea⟩, ren⟩, ⟨⟨rfu, rfs, rfh, rfa⟩, rfn⟩⟩ ol.length ⟨⟨xu, xs, xh, xa⟩, xn, xt, xp⟩ = o := ⟨_, rfl⟩
        obtain ⟨zc, hzc2⟩ : ∃ o, Tx.hearC ⟨rst, rsh, rsd, rsp, ⟨⟨reu, res, reh, rea⟩, ren⟩, ⟨⟨rfu, rfs, rfh, rfa⟩, rfn⟩⟩ ol.length ⟨⟨xu, xs, xh, xa⟩, xn, xt, xp⟩ = o := ⟨_, rfl⟩
        obtain ⟨al, hal⟩ : ∃ o, Tx.hearL ⟨rst, rsh, rsd, rsp, ⟨⟨reu, res, reh, rea⟩, ren⟩, ⟨⟨rfu, rfs, rfh, rfa⟩, rfn⟩⟩ ol ⟨⟨xu, xs, xh, xa⟩, xn, xt, xp⟩ = o := ⟨_, rfl⟩
        have hkey : zc ≠ 0 → (⟨xu, xs, xh, xa⟩ : Tx.KeyV) = ⟨rfu, rfs, rfh, rfa⟩ ∨ (⟨xu, xs, xh, xa⟩ : Tx.KeyV) = ⟨reu, res, reh, rea⟩ := fun h => Tx.hear_key (s := ⟨rst, rsh, rsd, rsp, ⟨⟨reu, res, reh, rea⟩, ren⟩, ⟨⟨rfu, rfs, rfh, rfa⟩, rfn⟩⟩) (b := ⟨⟨xu, xs, xh, xa⟩, xn, xt, xp⟩) (l := ol) (by rw [hzc2]; exact h)
        have hzr : B1 = none → c1 = 0 := fun e => by
          rcases OA.out with ⟨_, _, h, _⟩ | ⟨g, h, _⟩
          · exact h
          · rw [h] at e; cases e
        have hh : Calls Tryz.prog 6 #[.agg #[.int .i64 rst, .int .i64 rsh, .int .i64 rsd, .int .i64 rsp, .int .i64 reu, .int .i64 res, .int .i64 reh, .int .i64 rea, .int .i64 ren, .int .i64 rfu, .int .i64 rfs, .int .i64 rfh, .int .i64 rfa, .int .i64 rfn, .slice B1 ol.length c1], .agg #[.int .i64 xu, .int .i64 xs, .int .i64 xh, .int .i64 xa, .int .i64 xn, .string xt, .bool xp]] w18 fun e w' => ∃ (B : Option Addr) (m c : Nat), e = .returned (.tuple #[.agg #[.int .i64 ast, .int .i64 ash, .int .i64 asd, .int .i64 asp, .int .i64 aeu, .int .i64 aes, .int .i64 aeh, .int .i64 aea, .int .i64 aen, .int .i64 afu, .int .i64 afs, .int .i64 afh, .int .i64 afa, .int .i64 afn, .slice B m c], .int .i64 zc]) ∧ Below w18.heap.size w18 w' := by
          have h1 := Tx.Hears_impl ⟨rst, rsh, rsd, rsp, ⟨⟨reu, res, reh, rea⟩, ren⟩, ⟨⟨rfu, rfs, rfh, rfa⟩, rfn⟩⟩ B1 ol.length c1 ol ⟨⟨xu, xs, xh, xa⟩, xn, xt, xp⟩ w18 OA.out.elts hzr (by omega) (HTB.out.on K.out)
          rw [har, hzc2] at h1
          exact h1.mono fun e w' ⟨B, m, c, he, _, hb⟩ => ⟨B, m, c, he, hb⟩
        clear har hzc2 hal hzr
        go_wp2_with (first | (refine wpList_load_row rfl 30 _ rfl (w4.heap.size) rfl 30 _ (0, 0) _ KX.out Tryz.underlying30 rfl (by kernel_rfl) ?_) | (refine wpList_load_row rfl 32 _ rfl (V2.heap.size) rfl 32 _ (0, 0) _ KB.out Tryz.underlying32 rfl (by kernel_rfl) ?_))
        refine (hh).mono ?_
        rintro e w20 ⟨B3, m3, c3, rfl, b⟩
        replace BT := Lib.hid (BT.out.below (b.mono K.out.size))
        replace K := Lib.hid (K.out.trans (b.mono K.out.size))
        replace LG := Lib.hid (LG.out.on b)
        replace KS := Lib.hid (Tx.blk_on b KS.out)
        replace KB := Lib.hid (Tx.blk_on b KB.out)
        replace OA := Lib.hid (OA.out.on b)
        replace KX := Lib.hid (Tx.blk_on b KX.out)
        have sw20 := b.size
        clear hh
        clear b
        obtain ⟨V21, hV21⟩ : ∃ W, w20.alloc (.cells #[.int .i64 0, .int .i64 0, .int .i64 0, .int .i64 0, .int .i64 0, .int .i64 0, .int .i64 0, .int .i64 0, .int .i64 0, .int .i64 0, .int .i64 0, .int .i64 0, .int .i64 0, .int .i64 0, .slice none 0 0] 30) = W := ⟨_, rfl⟩
        replace BT := Lib.hid (BT.out.below ((Below.refl _ _).alloc K.out.size (.cells #[.int .i64 0, .int .i64 0, .int .i64 0, .int .i64 0, .int .i64 0, .int .i64 0, .int .i64 0, .int .i64 0, .int .i64 0, .int .i64 0, .int .i64 0, .int .i64 0, .int .i64 0, .int .i64 0, .slice none 0 0] 30)))
        replace K := Lib.hid (K.out.alloc K.out.size (.cells #[.int .i64 0, .int .i64 0, .int .i64 0, .int .i64 0, .int .i64 0, .int .i64 0, .int .i64 0, .int .i64 0, .int .i64 0, .int .i64 0, .int .i64 0, .int .i64 0, .int .i64 0, .int .i64 0, .slice none 0 0] 30))
        replace LG := Lib.hid (LG.out.on ((Below.refl _ _).alloc (Nat.le_refl _) (.cells #[.int .i64 0, .int .i64 0, .int .i64 0, .int .i64 0, .int .i64 0, .int .i64 0, .int .i64 0, .int .i64 0, .int .i64 0, .int .i64 0, .int .i64 0, .int .i64 0, .int .i64 0, .int .i64 0, .slice none 0 0] 30)))
        replace KS := Lib.hid (Tx.alloc_blk (o := .cells #[.int .i64 0, .int .i64 0, .int .i64 0, .int .i64 0, .int .i64 0, .int .i64 0, .int .i64 0, .int .i64 0, .int .i64 0, .int .i64 0, .int .i64 0, .int .i64 0, .int .i64 0, .int .i64 0, .slice none 0 0] 30) KS.out)
        replace KB := Lib.hid (Tx.alloc_blk (o := .cells #[.int .i64 0, .int .i64 0, .int .i64 0, .int .i64 0, .int .i64 0, .int .i64 0, .int .i64 0, .int .i64 0, .int .i64 0, .int .i64 0, .int .i64 0, .int .i64 0, .int .i64 0, .int .i64 0, .slice none 0 0] 30) KB.out)
        replace OA := Lib.hid (OA.out.on ((Below.refl _ _).alloc (Nat.le_refl _) (.cells #[.int .i64 0, .int .i64 0, .int .i64 0, .int .i64 0, .int .i64 0, .int .i64 0, .int .i64 0, .int .i64 0, .int .i64 0, .int .i64 0, .int .i64 0, .int .i64 0, .int .i64 0, .int .i64 0, .slice none 0 0] 30)))
        replace KX := Lib.hid (Tx.alloc_blk (o := .cells #[.int .i64 0, .int .i64 0, .int .i64 0, .int .i64 0, .int .i64 0, .int .i64 0, .int .i64 0, .int .i64 0, .int .i64 0, .int .i64 0, .int .i64 0, .int .i64 0, .int .i64 0, .int .i64 0, .slice none 0 0] 30) KX.out)
        have KA := Lib.hid (Tx.heap1 w20 (.cells #[.int .i64 0, .int .i64 0, .int .i64 0, .int .i64 0, .int .i64 0, .int .i64 0, .int .i64 0, .int .i64 0, .int .i64 0, .int .i64 0, .int .i64 0, .int .i64 0, .int .i64 0, .int .i64 0, .slice none 0 0] 30))
        rw [hV21] at BT K LG KS KB OA KX KA
        have sV21 : w20.heap.size < V21.heap.size := by rw [← hV21]; simp
        have KAo := KA
        have bs : Below w20.heap.size V21 (V21.setRow w20.heap.size #[.int .i64 ast, .int .i64 ash, .int .i64 asd, .int .i64 asp, .int .i64 aeu, .int .i64 aes, .int .i64 aeh, .int .i64 aea, .int .i64 aen, .int .i64 afu, .int .i64 afs, .int .i64 afh, .int .i64 afa, .int .i64 afn, .slice B3 m3 c3]) := below_setRow (Below.refl _ _) (Nat.le_refl _) _
        have KA2 : Hid ((V21.setRow w20.heap.size #[.int .i64 ast, .int .i64 ash, .int .i64 asd, .int .i64 asp, .int .i64 aeu, .int .i64 aes, .int .i64 aeh, .int .i64 aea, .int .i64 aen, .int .i64 afu, .int .i64 afs, .int .i64 afh, .int .i64 afa, .int .i64 afn, .slice B3 m3 c3]).heap[w20.heap.size]? = some (.cells #[.int .i64 ast, .int .i64 ash, .int .i64 asd, .int .i64 asp, .int .i64 aeu, .int .i64 aes, .int .i64 aeh, .int .i64 aea, .int .i64 aen, .int .i64 afu, .int .i64 afs, .int .i64 afh, .int .i64 afa, .int .i64 afn, .slice B3 m3 c3] 30)) := setRow_heap _ _ _ _ _ _ KA.out
        have BT2 := Lib.hid (BT.out.below (bs.mono (by omega)))
        have K2 := Lib.hid (K.out.trans (bs.mono (by omega)))
        have LG2 := Lib.hid (LG.out.heap (w' := (V21.setRow w20.heap.size #[.int .i64 ast, .int .i64 ash, .int .i64 asd, .int .i64 asp, .int .i64 aeu, .int .i64 aes, .int .i64 aeh, .int .i64 aea, .int .i64 aen, .int .i64 afu, .int .i64 afs, .int .i64 afh, .int .i64 afa, .int .i64 afn, .slice B3 m3 c3])) (fun k e => setRow_other _ _ _ _ (by have := hlLG k e; omega)))
        have KS2 := Lib.hid (show (V21.setRow w20.heap.size #[.int .i64 ast, .int .i64 ash, .int .i64 asd, .int .i64 asp, .int .i64 aeu, .int .i64 aes, .int .i64 aeh, .int .i64 aea, .int .i64 aen, .int .i64 afu, .int .i64 afs, .int .i64 afh, .int .i64 afa, .int .i64 afn, .slice B3 m3 c3]).heap[_]? = _ from (setRow_other _ _ _ _ (by omega)).trans KS.out)
        have KB2 := Lib.hid (show (V21.setRow w20.heap.size #[.int .i64 ast, .int .i64 ash, .int .i64 asd, .int .i64 asp, .int .i64 aeu, .int .i64 aes, .int .i64 aeh, .int .i64 aea, .int .i64 aen, .int .i64 afu, .int .i64 afs, .int .i64 afh, .int .i64 afa, .int .i64 afn, .slice B3 m3 c3]).heap[_]? = _ from (setRow_other _ _ _ _ (by omega)).trans KB.out)
        have OA2 := Lib.hid (OA.out.heap (w' := (V21.setRow w20.heap.size #[.int .i64 ast, .int .i64 ash, .int .i64 asd, .int .i64 asp, .int .i64 aeu, .int .i64 aes, .int .i64 aeh, .int .i64 aea, .int .i64 aen, .int .i64 afu, .int .i64 afs, .int .i64 afh, .int .i64 afa, .int .i64 afn, .slice B3 m3 c3])) (fun k e => setRow_other _ _ _ _ (by have := hlOA k e; omega)))
        have KX2 := Lib.hid (show (V21.setRow w20.heap.size #[.int .i64 ast, .int .i64 ash, .int .i64 asd, .int .i64 asp, .int .i64 aeu, .int .i64 aes, .int .i64 aeh, .int .i64 aea, .int .i64 aen, .int .i64 afu, .int .i64 afs, .int .i64 afh, .int .i64 afa, .int .i64 afn, .slice B3 m3 c3]).heap[_]? = _ from (setRow_other _ _ _ _ (by omega)).trans KX.out)
        have sR := bs.size
        go_upto_region 19 with (first | (refine wpList_store_row rfl 30 _ _ rfl (w20.heap.size) #[.int .i64 ast, .int .i64 ash, .int .i64 asd, .int .i64 asp, .int .i64 aeu, .int .i64 aes, .int .i64 aeh, .int .i64 aea, .int .i64 aen, .int .i64 afu, .int .i64 afs, .int .i64 afh, .int .i64 afa, .int .i64 afn, .slice B3 m3 c3] rfl rfl 30 _ KAo.out (by kernel_rfl) rfl (by simp [Value.oneCell']) ?_))
        clear hV21 
        generalize (V21.setRow w20.heap.size #[.int .i64 ast, .int .i64 ash, .int .i64 asd, .int .i64 asp, .int .i64 aeu, .int .i64 aes, .int .i64 aeh, .int .i64 aea, .int .i64 aen, .int .i64 afu, .int .i64 afs, .int .i64 afh, .int .i64 afa, .int .i64 afn, .slice B3 m3 c3]) = S21 at KA2 BT2 K2 LG2 KS2 KB2 OA2 KX2 sR ⊢
        clear bs KAo KA BT K LG KS KB OA KX
        have KA := KA2
        have BT := BT2
        have K := K2
        have LG := LG2
        have KS := KS2
        have KB := KB2
        have OA := OA2
        have KX := KX2
        clear KA2 BT2 K2 LG2 KS2 KB2 OA2 KX2
        have sSS21 : V21.heap.size ≤ S21.heap.size := sR
        clear sR
        clear KA
        go_cut [151] (fun cc wx => cc = .bool false ∧ wx = S21)
        case first =>
          as_aux_lemma =>
            obtain ⟨⟨k0, k1, k2, k3, k4, k5, k6⟩, _⟩ := Tx.blk7 KB.out
            obtain ⟨⟨q0, q1, q2, q3, q4, q5, q6, q7, q8, q9, q10, q11, q12, q13, q14⟩, _⟩ := Tx.blk15 KX.out
            by_cases hz0 : zc = 0
            · have hzb : (zc == 0) = true := by rw [hz0]; rfl
              go_wp2
              go_meet
              exact ⟨rfl, rfl⟩
            · have hzb : (zc == 0) = false := by rw [beq_eq_false_iff_ne]; exact hz0
              have hf1 := fun w' => Tx.eq_agg xu xs xh xa rfu rfs rfh rfa w'
              have hf2 := fun w' => Tx.eq_agg xu xs xh xa reu res reh rea w'
              cases h1 : Tx.KeyV.same ⟨xu, xs, xh, xa⟩ ⟨rfu, rfs, rfh, rfa⟩ with
              | true =>
                rw [h1] at hf1
                go_wp2
                go_meet
                exact ⟨rfl, rfl⟩
              | false =>
                have h2 : Tx.KeyV.same ⟨xu, xs, xh, xa⟩ ⟨reu, res, reh, rea⟩ = true := by
                  rcases hkey hz0 with h | h
                  · rw [h, Tx.KeyV.same_self] at h1; cases h1
                  · rw [h, Tx.KeyV.same_self]
                rw [h1] at hf1
                rw [h2] at hf2
                go_wp2
                go_meet
                exact ⟨rfl, rfl⟩
        case rest =>
          obtain ⟨rfl, rfl⟩ := hcut
          clear hkey
          rcases hways with h | h | h | h
          · exact absurd h.1 hy0
          · as_aux_lemma =>
              obtain ⟨rfl, hst, _, _, _, hle⟩ := h
              have hlen1 : (ol.length : Int) = (m : Int) + 1 := by rw [hle]; simp [hlm]
              have heN : Tx.earlyN ol = Tx.earlyN l + 1 := by rw [hle, Tx.early_snoc]; rfl
              have heb : (((Tx.earlyN ol : Nat) : Int) == ((Tx.earlyN l : Nat) : Int) + 1) = true := by rw [heN]; simp
              have heq2 : ((Tx.earlyN ol : Nat) : Int) = ((Tx.earlyN l : Nat) : Int) + 1 := by rw [heN]; rfl
              have hel : Tx.earlyN l ≤ 100 := Nat.le_trans (Tx.early_le l) (by omega)
              have hlb : ((ol.length : Int) == (m : Int) + 1) = true := by rw [hlen1]; simp
              have hsb : (st == 1) = true := by rw [show st = 1 from hst]; rfl
              clear hle heN hst
              have cEX : Hid (∀ w' : World, Tx.EltsO w' w'.heap.size B1 ol.length ol → Calls Tryz.prog 18 #[.agg #[.int .i64 rst, .int .i64 rsh, .int .i64 rsd, .int .i64 rsp, .int .i64 reu, .int .i64 res, .int .i64 reh, .int .i64 rea, .int .i64 ren, .int .i64 rfu, .int .i64 rfs, .int .i64 rfh, .int .i64 rfa, .int .i64 rfn, .slice B1 ol.length c1]] w' fun e w'' => e = .returned (.int .i64 ((Tx.earlyN ol : Nat) : Int)) ∧ Below w'.heap.size w' w'') := fun w' hE => Tx.EarlyIn_spec ⟨rst, rsh, rsd, rsp, ⟨⟨reu, res, reh, rea⟩, ren⟩, ⟨⟨rfu, rfs, rfh, rfa⟩, rfn⟩⟩ B1 ol.length c1 ol w' hE (by omega)
              have cES : Hid (∀ w' : World, Tx.EltsO w' w'.heap.size B m l → Calls Tryz.prog 18 #[.agg #[.int .i64 st, .int .i64 sh, .int .i64 sd, .int .i64 sp, .int .i64 eu, .int .i64 es, .int .i64 eh, .int .i64 ea, .int .i64 en, .int .i64 fu, .int .i64 fs, .int .i64 fh, .int .i64 fa, .int .i64 fn, .slice B m mc]] w' fun e w'' => e = .returned (.int .i64 ((Tx.earlyN l : Nat) : Int)) ∧ Below w'.heap.size w' w'') := fun w' hE => Tx.EarlyIn_spec ⟨st, sh, sd, sp, ⟨⟨eu, es, eh, ea⟩, en⟩, ⟨⟨fu, fs, fh, fa⟩, fn⟩⟩ B m mc l w' hE (by omega)
              have cOX : Hid (∀ w' : World, Tx.EltsO w' w'.heap.size B1 ol.length ol → Calls Tryz.prog 12 #[.agg #[.int .i64 rst, .int .i64 rsh, .int .i64 rsd, .int .i64 rsp, .int .i64 reu, .int .i64 res, .int .i64 reh, .int .i64 rea, .int .i64 ren, .int .i64 rfu, .int .i64 rfs, .int .i64 rfh, .int .i64 rfa, .int .i64 rfn, .slice B1 ol.length c1]] w' fun e w'' => e = .returned (.bool true) ∧ Below w'.heap.size w' w'') := fun w' hE => by
                have h1 := Tx.SeatOk_impl ⟨rst, rsh, rsd, rsp, ⟨⟨reu, res, reh, rea⟩, ren⟩, ⟨⟨rfu, rfs, rfh, rfa⟩, rfn⟩⟩ B1 ol.length c1 ol w' hE (by omega)
                rwa [HRT.out] at h1
              obtain ⟨e1, he1⟩ : ∃ e : Int, ((Tx.earlyN ol : Nat) : Int) = e := ⟨_, rfl⟩
              obtain ⟨e2, he2⟩ : ∃ e : Int, ((Tx.earlyN l : Nat) : Int) = e := ⟨_, rfl⟩
              have he2b : 0 ≤ e2 ∧ e2 ≤ 100 := by rw [← he2]; omega
              rw [he1] at cEX heb heq2
              rw [he2] at cES heb heq2
              clear he1 he2
              go_wp2
              refine Tx.wp_region_own (W := wc) [] (fun _ => True) Tx.stays_true trivial [0, 0, 0, 0, 0, 1, 0, 1, 0, 0, 0, 0, 0, 0, 0, 0, 0, 0, 0, 0, 0, 0, 0, 1, 0, 0] (by kernel_rfl) (by kernel_rfl) (by kernel_rfl) ?_
              have fS : ∀ q : Tx.In (Tx.plainEnv wc []), _ := fun q => (Tx.blk15 (q.block KS.out (by simp))).1
              have fX : ∀ q : Tx.In (Tx.plainEnv wc []), _ := fun q => (Tx.blk15 (q.block KX.out (by simp))).1
              refine Tx.wpO_quiet 4 rfl (by kernel_rfl) ?_
              simp only [List.take, List.drop]
              repeat (go_big_quiet_step (fail))
              refine wpQuiet_nil ?_
              refine Tx.wpO_load_row rfl 30 _ rfl (w4.heap.size) rfl 30 _ (0, 0) _ (fun q => q.block KX.out (by simp)) Tryz.underlying30 rfl (by kernel_rfl) ?_
              simp only [Act.put, List.setIfInBounds_toArray, List.set_cons_succ, List.set_cons_zero]
              refine Tx.wpO_call (f := 18) (args := #[.agg #[.int .i64 rst, .int .i64 rsh, .int .i64 rsd, .int .i64 rsp, .int .i64 reu, .int .i64 res, .int .i64 reh, .int .i64 rea, .int .i64 ren, .int .i64 rfu, .int .i64 rfs, .int .i64 rfh, .int .i64 rfa, .int .i64 rfn, .slice B1 ol.length c1]]) (.int .i64 e1) rfl (fun w' => by simp [go_sem]) (fun w' hw hF => cEX.out w' (OA.out.on (Tx.kept_below hw)).elts) ?_
              simp only [Act.put, List.setIfInBounds_toArray, List.set_cons_succ, List.set_cons_zero]
              refine Tx.wpO_load_row rfl 30 _ rfl (w1.heap.size) rfl 30 _ (0, 0) _ (fun q => q.block KS.out (by simp)) Tryz.underlying30 rfl (by kernel_rfl) ?_
              simp only [Act.put, List.setIfInBounds_toArray, List.set_cons_succ, List.set_cons_zero]
              refine Tx.wpO_call (f := 18) (args := #[.agg #[.int .i64 st, .int .i64 sh, .int .i64 sd, .int .i64 sp, .int .i64 eu, .int .i64 es, .int .i64 eh, .int .i64 ea, .int .i64 en, .int .i64 fu, .int .i64 fs, .int .i64 fh, .int .i64 fa, .int .i64 fn, .slice B m mc]]) (.int .i64 e2) rfl (fun w' => by simp [go_sem]) (fun w' hw hF => cES.out w' (LG.out.on (Tx.kept_below hw)).elts) ?_
              simp only [Act.put, List.setIfInBounds_toArray, List.set_cons_succ, List.set_cons_zero]
              refine Tx.wpO_quiet 14 rfl (by kernel_rfl) ?_
              simp only [List.take, List.drop]
              repeat (go_big_quiet_step (fail))
              refine wpQuiet_nil ?_
              refine Tx.wpO_load_row rfl 30 _ rfl (w4.heap.size) rfl 30 _ (0, 0) _ (fun q => q.block KX.out (by simp)) Tryz.underlying30 rfl (by kernel_rfl) ?_
              simp only [Act.put, List.setIfInBounds_toArray, List.set_cons_succ, List.set_cons_zero]
              refine Tx.wpO_call (f := 12) (args := #[.agg #[.int .i64 rst, .int .i64 rsh, .int .i64 rsd, .int .i64 rsp, .int .i64 reu, .int .i64 res, .int .i64 reh, .int .i64 rea, .int .i64 ren, .int .i64 rfu, .int .i64 rfs, .int .i64 rfh, .int .i64 rfa, .int .i64 rfn, .slice B1 ol.length c1]]) (.bool true) rfl (fun w' => by simp [go_sem]) (fun w' hw hF => cOX.out w' (OA.out.on (Tx.kept_below hw)).elts) ?_
              simp only [Act.put, List.setIfInBounds_toArray, List.set_cons_succ, List.set_cons_zero]
              refine Tx.wpO_quiet 2 rfl (by kernel_rfl) ?_
              simp only [List.take, List.drop]
              repeat (go_big_quiet_step (fail))
              refine wpQuiet_nil ?_
              refine Tx.wpO_nil ?_
              rintro w25 b' _
              have b := Tx.kept_below b'
              replace BT := Lib.hid (BT.out.below (b.mono K.out.size))
              replace K := Lib.hid (K.out.trans (b.mono K.out.size))
              replace LG := Lib.hid (LG.out.on b)
              replace KS := Lib.hid (Tx.blk_on b KS.out)
              replace KB := Lib.hid (Tx.blk_on b KB.out)
              replace OA := Lib.hid (OA.out.on b)
              replace KX := Lib.hid (Tx.blk_on b KX.out)
              clear b b' fS fX
              go_wp2
              go_ret
              exact ⟨rfl, K.out⟩
          · as_aux_lemma =>
              obtain ⟨rfl, hst, _, _, _, hrv, hle⟩ := h
              have hlen1 : (ol.length : Int) = (m : Int) := by rw [hle, hlm]
              have hlb : ((ol.length : Int) == (m : Int)) = true := by rw [hlen1]; simp
              have hsr : rst = 2 := congrArg Tx.SeatV.st hrv
              have hsb : (rst == 2) = true := by rw [hsr]; rfl
              clear hrv hle hsr hst
              have cEX : Hid (∀ w' : World, Tx.EltsO w' w'.heap.size B1 ol.length ol → Calls Tryz.prog 18 #[.agg #[.int .i64 rst, .int .i64 rsh, .int .i64 rsd, .int .i64 rsp, .int .i64 reu, .int .i64 res, .int .i64 reh, .int .i64 rea, .int .i64 ren, .int .i64 rfu, .int .i64 rfs, .int .i64 rfh, .int .i64 rfa, .int .i64 rfn, .slice B1 ol.length c1]] w' fun e w'' => e = .returned (.int .i64 ((Tx.earlyN ol : Nat) : Int)) ∧ Below w'.heap.size w' w'') := fun w' hE => Tx.EarlyIn_spec ⟨rst, rsh, rsd, rsp, ⟨⟨reu, res, reh, rea⟩, ren⟩, ⟨⟨rfu, rfs, rfh, rfa⟩, rfn⟩⟩ B1 ol.length c1 ol w' hE (by omega)
              have cES : Hid (∀ w' : World, Tx.EltsO w' w'.heap.size B m l → Calls Tryz.prog 18 #[.agg #[.int .i64 st, .int .i64 sh, .int .i64 sd, .int .i64 sp, .int .i64 eu, .int .i64 es, .int .i64 eh, .int .i64 ea, .int .i64 en, .int .i64 fu, .int .i64 fs, .int .i64 fh, .int .i64 fa, .int .i64 fn, .slice B m mc]] w' fun e w'' => e = .returned (.int .i64 ((Tx.earlyN l : Nat) : Int)) ∧ Below w'.heap.size w' w'') := fun w' hE => Tx.EarlyIn_spec ⟨st, sh, sd, sp, ⟨⟨eu, es, eh, ea⟩, en⟩, ⟨⟨fu, fs, fh, fa⟩, fn⟩⟩ B m mc l w' hE (by omega)
              have cOX : Hid (∀ w' : World, Tx.EltsO w' w'.heap.size B1 ol.length ol → Calls Tryz.prog 12 #[.agg #[.int .i64 rst, .int .i64 rsh, .int .i64 rsd, .int .i64 rsp, .int .i64 reu, .int .i64 res, .int .i64 reh, .int .i64 rea, .int .i64 ren, .int .i64 rfu, .int .i64 rfs, .int .i64 rfh, .int .i64 rfa, .int .i64 rfn, .slice B1 ol.length c1]] w' fun e w'' => e = .returned (.bool true) ∧ Below w'.heap.size w' w'') := fun w' hE => by
                have h1 := Tx.SeatOk_impl ⟨rst, rsh, rsd, rsp, ⟨⟨reu, res, reh, rea⟩, ren⟩, ⟨⟨rfu, rfs, rfh, rfa⟩, rfn⟩⟩ B1 ol.length c1 ol w' hE (by omega)
                rwa [HRT.out] at h1
              obtain ⟨⟨k0, k1, k2, k3, k4, k5, k6, k7, k8, k9, k10, k11, k12, k13, k14⟩, _⟩ := Tx.blk15 KS.out
              obtain ⟨⟨q0, q1, q2, q3, q4, q5, q6, q7, q8, q9, q10, q11, q12, q13, q14⟩, _⟩ := Tx.blk15 KX.out
              go_wp2_with (refine Tx.wpList_load_wanted rfl 30 _ rfl (w4.heap.size) rfl 30 _ (0, 0) _ KX.out Tryz.underlying30 rfl (by kernel_rfl) ?_)
              clear k0 k1 k2 k3 k4 k5 k6 k7 k8 k9 k10 k11 k12 k13 k14 q0 q1 q2 q3 q4 q5 q6 q7 q8 q9 q10 q11 q12 q13 q14
              refine (cOX.out _ OA.out.elts).mono ?_
              rintro e w25 ⟨rfl, b⟩
              replace BT := Lib.hid (BT.out.below (b.mono K.out.size))
              replace K := Lib.hid (K.out.trans (b.mono K.out.size))
              replace LG := Lib.hid (LG.out.on b)
              replace KS := Lib.hid (Tx.blk_on b KS.out)
              replace KB := Lib.hid (Tx.blk_on b KB.out)
              replace OA := Lib.hid (OA.out.on b)
              replace KX := Lib.hid (Tx.blk_on b KX.out)
              have sw25 := b.size
              clear b
              go_wp2
              go_ret
              exact ⟨rfl, K.out⟩
          · as_aux_lemma =>
              obtain ⟨rfl, hst, _, _, _, hle⟩ := h
              have hlen1 : (ol.length : Int) = (m : Int) + 1 := by rw [hle]; simp [hlm]
              have heN : Tx.earlyN ol = Tx.earlyN l := by rw [hle, Tx.early_snoc]; rfl
              have hlb : ((ol.length : Int) == (m : Int) + 1) = true := by rw [hlen1]; simp
              have hsb : (st == 2) = true := by rw [show st = 2 from hst]; rfl
              clear hst
              obtain ⟨g1, rfl, hcl⟩ : ∃ g1, B1 = some ⟨g1, 0, none⟩ ∧ ∀ q : Tx.In (Tx.plainEnv wc []), q.w.cell? ⟨g1, m * 2, none⟩ = some (.string xt) := by
                rcases OA.out with ⟨_, h0, _⟩ | ⟨g1, e1, _, hM⟩
                · omega
                · refine ⟨g1, e1, fun q => ?_⟩
                  have hlm2 : ol[m]? = some ⟨xt, false⟩ := by rw [hle, ← hlm]; simp
                  have h1 := (Tx.MadeG.lies hM).2 m _ hlm2
                  have h2 := h1 0 (.string xt) rfl
                  have h3 : wc.cell? ⟨g1, m * 2, none⟩ = some (.string xt) := by simpa [Tx.Cells.sz] using h2
                  exact q.cell h3 (by simp)
              clear hle
              have hm0 : (0 : Int) ≤ (m : Int) := by omega
              have hmo : (m : Int) < (ol.length : Int) := by omega
              have cEX : Hid (∀ w' : World, Tx.EltsO w' w'.heap.size (some ⟨g1, 0, none⟩) ol.length ol → Calls Tryz.prog 18 #[.agg #[.int .i64 rst, .int .i64 rsh, .int .i64 rsd, .int .i64 rsp, .int .i64 reu, .int .i64 res, .int .i64 reh, .int .i64 rea, .int .i64 ren, .int .i64 rfu, .int .i64 rfs, .int .i64 rfh, .int .i64 rfa, .int .i64 rfn, .slice (some ⟨g1, 0, none⟩) ol.length c1]] w' fun e w'' => e = .returned (.int .i64 ((Tx.earlyN l : Nat) : Int)) ∧ Below w'.heap.size w' w'') := fun w' hE => by
                have h1 := Tx.EarlyIn_spec ⟨rst, rsh, rsd, rsp, ⟨⟨reu, res, reh, rea⟩, ren⟩, ⟨⟨rfu, rfs, rfh, rfa⟩, rfn⟩⟩ (some ⟨g1, 0, none⟩) ol.length c1 ol w' hE (by omega)
                rw [heN] at h1
                exact h1
              have cES : Hid (∀ w' : World, Tx.EltsO w' w'.heap.size B m l → Calls Tryz.prog 18 #[.agg #[.int .i64 st, .int .i64 sh, .int .i64 sd, .int .i64 sp, .int .i64 eu, .int .i64 es, .int .i64 eh, .int .i64 ea, .int .i64 en, .int .i64 fu, .int .i64 fs, .int .i64 fh, .int .i64 fa, .int .i64 fn, .slice B m mc]] w' fun e w'' => e = .returned (.int .i64 ((Tx.earlyN l : Nat) : Int)) ∧ Below w'.heap.size w' w'') := fun w' hE => Tx.EarlyIn_spec ⟨st, sh, sd, sp, ⟨⟨eu, es, eh, ea⟩, en⟩, ⟨⟨fu, fs, fh, fa⟩, fn⟩⟩ B m mc l w' hE (by omega)
              have cOX : Hid (∀ w' : World, Tx.EltsO w' w'.heap.size (some ⟨g1, 0, none⟩) ol.length ol → Calls Tryz.prog 12 #[.agg #[.int .i64 rst, .int .i64 rsh, .int .i64 rsd, .int .i64 rsp, .int .i64 reu, .int .i64 res, .int .i64 reh, .int .i64 rea, .int .i64 ren, .int .i64 rfu, .int .i64 rfs, .int .i64 rfh, .int .i64 rfa, .int .i64 rfn, .slice (some ⟨g1, 0, none⟩) ol.length c1]] w' fun e w'' => e = .returned (.bool true) ∧ Below w'.heap.size w' w'') := fun w' hE => by
                have h1 := Tx.SeatOk_impl ⟨rst, rsh, rsd, rsp, ⟨⟨reu, res, reh, rea⟩, ren⟩, ⟨⟨rfu, rfs, rfh, rfa⟩, rfn⟩⟩ (some ⟨g1, 0, none⟩) ol.length c1 ol w' hE (by omega)
                rwa [HRT.out] at h1
              obtain ⟨e2, he2⟩ : ∃ e : Int, ((Tx.earlyN l : Nat) : Int) = e := ⟨_, rfl⟩
              rw [he2] at cES cEX
              clear he2 heN
              have hee : (e2 == e2) = true := by simp
              have hxx : (xt.toList == xt.toList) = true := by simp
              go_wp2
              refine Tx.wp_region_own (W := wc) [] (fun _ => True) Tx.stays_true trivial [0, 0, 0, 0, 0, 1, 0, 1, 0, 0, 0, 0, 0, 0, 0, 0, 0, 0, 0, 0, 0, 0, 0, 0, 0, 0, 0, 0, 0, 0, 0, 0, 0, 0, 0, 1, 0, 0] (by kernel_rfl) (by kernel_rfl) (by kernel_rfl) ?_
              have fS : ∀ q : Tx.In (Tx.plainEnv wc []), _ := fun q => (Tx.blk15 (q.block KS.out (by simp))).1
              have fX : ∀ q : Tx.In (Tx.plainEnv wc []), _ := fun q => (Tx.blk15 (q.block KX.out (by simp))).1
              have fB : ∀ q : Tx.In (Tx.plainEnv wc []), _ := fun q => (Tx.blk7 (q.block KB.out (by simp))).1
              refine Tx.wpO_quiet 4 rfl (by kernel_rfl) ?_
              simp only [List.take, List.drop]
              repeat (go_big_quiet_step (fail))
              refine wpQuiet_nil ?_
              refine Tx.wpO_load_row rfl 30 _ rfl (w4.heap.size) rfl 30 _ (0, 0) _ (fun q => q.block KX.out (by simp)) Tryz.underlying30 rfl (by kernel_rfl) ?_
              simp only [Act.put, List.setIfInBounds_toArray, List.set_cons_succ, List.set_cons_zero]
              refine Tx.wpO_call (f := 18) (args := #[.agg #[.int .i64 rst, .int .i64 rsh, .int .i64 rsd, .int .i64 rsp, .int .i64 reu, .int .i64 res, .int .i64 reh, .int .i64 rea, .int .i64 ren, .int .i64 rfu, .int .i64 rfs, .int .i64 rfh, .int .i64 rfa, .int .i64 rfn, .slice (some ⟨g1, 0, none⟩) ol.length c1]]) (.int .i64 e2) rfl (fun w' => by simp [go_sem]) (fun w' hw hF => cEX.out w' (OA.out.on (Tx.kept_below hw)).elts) ?_
              simp only [Act.put, List.setIfInBounds_toArray, List.set_cons_succ, List.set_cons_zero]
              refine Tx.wpO_load_row rfl 30 _ rfl (w1.heap.size) rfl 30 _ (0, 0) _ (fun q => q.block KS.out (by simp)) Tryz.underlying30 rfl (by kernel_rfl) ?_
              simp only [Act.put, List.setIfInBounds_toArray, List.set_cons_succ, List.set_cons_zero]
              refine Tx.wpO_call (f := 18) (args := #[.agg #[.int .i64 st, .int .i64 sh, .int .i64 sd, .int .i64 sp, .int .i64 eu, .int .i64 es, .int .i64 eh, .int .i64 ea, .int .i64 en, .int .i64 fu, .int .i64 fs, .int .i64 fh, .int .i64 fa, .int .i64 fn, .slice B m mc]]) (.int .i64 e2) rfl (fun w' => by simp [go_sem]) (fun w' hw hF => cES.out w' (LG.out.on (Tx.kept_below hw)).elts) ?_
              simp only [Act.put, List.setIfInBounds_toArray, List.set_cons_succ, List.set_cons_zero]
              refine Tx.wpO_quiet 26 rfl (by kernel_rfl) ?_
              simp only [List.take, List.drop]
              repeat (go_big_quiet_step (fail))
              refine wpQuiet_nil ?_
              refine Tx.wpO_load_row rfl 30 _ rfl (w4.heap.size) rfl 30 _ (0, 0) _ (fun q => q.block KX.out (by simp)) Tryz.underlying30 rfl (by kernel_rfl) ?_
              simp only [Act.put, List.setIfInBounds_toArray, List.set_cons_succ, List.set_cons_zero]
              refine Tx.wpO_call (f := 12) (args := #[.agg #[.int .i64 rst, .int .i64 rsh, .int .i64 rsd, .int .i64 rsp, .int .i64 reu, .int .i64 res, .int .i64 reh, .int .i64 rea, .int .i64 ren, .int .i64 rfu, .int .i64 rfs, .int .i64 rfh, .int .i64 rfa, .int .i64 rfn, .slice (some ⟨g1, 0, none⟩) ol.length c1]]) (.bool true) rfl (fun w' => by simp [go_sem]) (fun w' hw hF => cOX.out w' (OA.out.on (Tx.kept_below hw)).elts) ?_
              simp only [Act.put, List.setIfInBounds_toArray, List.set_cons_succ, List.set_cons_zero]
              refine Tx.wpO_quiet 2 rfl (by kernel_rfl) ?_
              simp only [List.take, List.drop]
              repeat (go_big_quiet_step (fail))
              refine wpQuiet_nil ?_
              refine Tx.wpO_nil ?_
              rintro w25 b' _
              have b := Tx.kept_below b'
              replace BT := Lib.hid (BT.out.below (b.mono K.out.size))
              replace K := Lib.hid (K.out.trans (b.mono K.out.size))
              replace LG := Lib.hid (LG.out.on b)
              replace KS := Lib.hid (Tx.blk_on b KS.out)
              replace KB := Lib.hid (Tx.blk_on b KB.out)
              replace OA := Lib.hid (OA.out.on b)
              replace KX := Lib.hid (Tx.blk_on b KX.out)
              clear b b' fS fX fB
              go_wp2
              go_ret
              exact ⟨rfl, K.out⟩

theorem door_met (os : Os) (args : Array Value) : laidMetH Tryz.prog Rows.fnSeatsRow.laid ((Tx.doorWorld os).forCall (fun _ _ => 0) ⟨#[], args, []⟩).memory := by
  rw [MakeChecks.laidMetH_plain _ _ _ (by kernel_rfl)]
  exact laidMet_of_run' 8 (by kernel_rfl) (by kernel_rfl)
theorem tab {W : World} (h : laidMetH Tryz.prog Rows.fnSeatsRow.laid W) : Tx.Tab W := by
  rw [MakeChecks.laidMetH_plain _ _ _ (by kernel_rfl)] at h
  exact Tx.tab_of (laidMet.tail (laidMet.tail h))

theorem own : ownKnob Tryz.prog.godebug = none := by kernel_rfl
theorem laidOut : laidOutB Tryz.prog = true := by kernel_rfl

set_option maxRecDepth 100000 in
theorem lifted (os : Os) (started : os.Started) (H : Type) (enc : TypeId × Value → H) :
    ReturnsInHanded {} Tryz.checked os 3 .any (fun w args => (Rows.fnSeatsSpec.pre enc Tryz.prog Tryz.f3 [] false w args ∧ laidMetH Tryz.prog Rows.fnSeatsRow.laid w) ∧ sizedMet enc Tryz.prog Tryz.f3 (OpenSpec.ofChange Rows.fnSeatsSpec) false w args)
      (Rows.fnSeatsSpec.post enc Tryz.prog Tryz.f3 false true false false) := by
  refine returnsInHanded_of_change_and (C := Tryz.checked) (X := fun w _ => laidMetH Tryz.prog Rows.fnSeatsRow.laid w) (fun _ _ _ hh h => h.of_heap hh) own started (by kernel_rfl) Tryz.func3
    (ChangeSpec.witness_shaped (enc := enc) (C := Tryz.checked) (os := os) (X := fun w _ => laidMetH Tryz.prog Rows.fnSeatsRow.laid w) false (Tx.doorWorld os) #[.slice none 0 0] 8 rfl (Tx.door_shaped os _) (by kernel_rfl) (by kernel_rfl) (by kernel_rfl) (door_met os _)) ?_
  intro W base args ds gs before hval0 hW _ _ hL hsh
  have hval : ∀ (j : Nat) t v, Tryz.f3.params[j]? = some t → args[j]? = some v → Value.okWide Tryz.prog W .any base t v := hval0
  have hW' := hW
  obtain ⟨p, q, hA0, hV, rfl, hfz, hnd⟩ := hW
  have hA : DataW.TrodAll enc Tryz.prog W 0 (fun _ => true) true Tryz.f3.params.toList args.toList ds p := hA0
  rw [Tryz.params3] at hA hval
  obtain ⟨v0, vs0, d0, ds0, p0, q0, hargs, rfl, rfl, h0, r0⟩ := trodAll_cons hA
  obtain ⟨rfl, rfl, rfl⟩ := trodAll_nil r0
  obtain rfl : args = #[v0] := by cases args; simp_all
  obtain ⟨rfl, rfl⟩ := trodVars_none hV
  have k0 := h0
  have lt0 : ∀ x ∈ p0, x.block < W.heap.size := by obtain ⟨m, hm⟩ := k0; exact DataW.trod_lt m _ _ _ hm
  obtain ⟨a0, len0, cap0, rfl⟩ := okWide_slice Tryz.underlying22 (hval 0 22 v0 rfl rfl)
  have w0 : Tx.BytesAt W W.heap.size a0 len0 ∧ len0 ≤ maxLen := by
    obtain ⟨fuel, hf⟩ := h0
    rcases open_ints Tryz.underlying22 Tryz.underlying5 (by kernel_rfl) hf with ⟨hcs, _⟩ | ⟨x, l, c, zs, hcs, _, hl, hm, hz, _, hcell, hwz⟩
    · simp [Value.cells] at hcs
      obtain ⟨rfl, rfl, rfl⟩ := hcs
      exact ⟨fun h => absurd h (by omega), by unfold maxLen; omega⟩
    · simp [Value.cells] at hcs
      obtain ⟨rfl, rfl, rfl⟩ := hcs
      simp only [if_true] at hz
      exact ⟨Tx.bytesAt_of_ints (by omega) hcell fun n hn => bounds_u8 (hwz n hn), by omega⟩
  clear hA0 hval0
  refine (walk W a0 len0 cap0 w0.1 w0.2 (tab hL)).mono fun e W' ⟨he, bel⟩ => ?_
  subst he
  exact ⟨_, rfl, _, _, _, [], _, [], hW', trodAll_mk1 (shut_bool Tryz.underlying4 _), (trodAll_cons_mk (Below.trod laidOut (by kernel_rfl) (of_decide_eq_true (by kernel_rfl)) k0 bel lt0) trodAll_mk0), rfl, bel.frame _, fun h => by cases h⟩

theorem over : Rows.fnSeatsRow.holds Tryz.pinned (OpenSpec.ofChange Rows.fnSeatsSpec) :=
  OpenClaim.holds_of_wide 3 Tryz.f3 rfl rfl rfl rfl rfl rfl rfl ⟨rfl, rfl, rfl, rfl, rfl⟩ rfl rfl rfl rfl rfl (by kernel_rfl) Tryz.func3 (by kernel_rfl)
    (of_decide_eq_true (by kernel_rfl)) (by unfold Func.isWrapper; first | (rw [if_pos (by decide +kernel)]; kernel_rfl) | (rw [if_neg (by decide +kernel)]; exact ⟨rfl, rfl⟩))
    (fun os started H enc _ => lifted os started H enc)

end Go.Proofs.YtchdmmlkgglmcaaGreatDoor.fnSeats

namespace Go.Proofs.YtchdmmlkgglmcaaGreatDoor
theorem fnSeats_proved : Rows.FnSeatsCardSaid :=
  Claim7.holds_tied_plain_at .later [] Rows.fnSeatsCard.laidKinds true Rows.fnSeatsCard.stood.harness true
    fnSeats.over (fun _ h => by cases h) (by kernel_rfl) (fun _ h => by cases h) fnSeats_row_tie rfl ⟨rfl, rfl⟩ (by kernel_rfl) rfl
    (fun f fn hf hfn => by
      obtain rfl : f = 3 := Option.some.inj ((show Tryz.prog.funcNamed Rows.fnSeatsRow.func = some 3 by kernel_rfl).symm.trans hf) |>.symm
      obtain rfl : fn = Tryz.f3 := (Option.some.inj (Tryz.func3.symm.trans hfn)).symm
      exact ⟨by kernel_rfl, fun j t ht => by
        rw [Tryz.params3] at ht
        have hm : t ∈ [22] := by simpa using Array.mem_of_getElem? ht
        have hall : ([22].all fun u => !Tryz.prog.wantsStandIn u) = true := by kernel_rfl
        exact (show Tryz.prog.wantsStandIn t = false by simpa using List.all_eq_true.1 hall t hm)⟩)
    (by kernel_rfl)
#print axioms fnSeats_proved
end Go.Proofs.YtchdmmlkgglmcaaGreatDoor

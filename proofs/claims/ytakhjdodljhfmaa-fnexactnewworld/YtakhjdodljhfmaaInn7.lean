/-
  What markSeatS, heldSeatS, markInn and heldInn of the laws do. Conditions: at most 1048576 seats, and of each as many words.
-/
import Derived.Test.YtakhjdodljhfmaaInn2
import Derived.Test.YtakhjdodljhfmaaInn6
namespace Go.Proofs.Ytakhjdodljhfmaa.Tx
open Go.RowKit

theorem fromK_at {w : World} {g o K : Nat} (h : At w g o (FromK.mk K)) : w.cell? ⟨g, o, none⟩ = some (.int .i64 (K : Int)) ∧ w.cell? ⟨g, o + 1, none⟩ = some (.int .i64 ((K : Int) + 1)) ∧ w.cell? ⟨g, o + 2, none⟩ = some (.int .i64 ((K : Int) + 1 + 1)) ∧ w.cell? ⟨g, o + 3, none⟩ = some (.int .i64 ((K : Int) + 1 + 1 + 1)) ∧ w.cell? ⟨g, o + 4, none⟩ = some (.int .i64 ((K : Int) + 1 + 1 + 1 + 1)) ∧ w.cell? ⟨g, o + 5, none⟩ = some (.int .i64 ((K : Int) + 1 + 1 + 1 + 1 + 1)) ∧ w.cell? ⟨g, o + 6, none⟩ = some (.int .i64 ((K : Int) + 1 + 1 + 1 + 1 + 1 + 1)) ∧ w.cell? ⟨g, o + 7, none⟩ = some (.int .i64 ((K : Int) + 1 + 1 + 1 + 1 + 1 + 1 + 1)) ∧ w.cell? ⟨g, o + 8, none⟩ = some (.int .i64 ((K : Int) + 1 + 1 + 1 + 1 + 1 + 1 + 1 + 1)) ∧ w.cell? ⟨g, o + 9, none⟩ = some (.int .i64 ((K : Int) + 1 + 1 + 1 + 1 + 1 + 1 + 1 + 1 + 1)) ∧ w.cell? ⟨g, o + 10, none⟩ = some (.int .i64 ((K : Int) + 1 + 1 + 1 + 1 + 1 + 1 + 1 + 1 + 1 + 1)) ∧ w.cell? ⟨g, o + 11, none⟩ = some (.int .i64 ((K : Int) + 1 + 1 + 1 + 1 + 1 + 1 + 1 + 1 + 1 + 1 + 1)) ∧ w.cell? ⟨g, o + 12, none⟩ = some (.int .i64 ((K : Int) + 1 + 1 + 1 + 1 + 1 + 1 + 1 + 1 + 1 + 1 + 1 + 1)) ∧ w.cell? ⟨g, o + 13, none⟩ = some (.int .i64 ((K : Int) + 1 + 1 + 1 + 1 + 1 + 1 + 1 + 1 + 1 + 1 + 1 + 1 + 1)) :=
  ⟨h 0 _ rfl, h 1 _ rfl, h 2 _ rfl, h 3 _ rfl, h 4 _ rfl, h 5 _ rfl, h 6 _ rfl, h 7 _ rfl, h 8 _ rfl, h 9 _ rfl, h 10 _ rfl, h 11 _ rfl, h 12 _ rfl, h 13 _ rfl⟩
theorem markWordS_held (A : Option Addr) (n cap k base : Nat) (w : World) (h : HeldL w base A n) (hk : k + n * 2 ≤ 4611686018427387904) :
    Calls Try.prog 51 #[.slice A n cap, .int .i64 (k : Int)] w fun e w' => e = .returned (.int .i64 ((k + n * 2 : Nat) : Int)) ∧ FillO w' A n (n * 2) (markF wordKs k) ∧ w.grownBy w' (blkA A) := by
  rcases h with ⟨rfl, rfl⟩ | ⟨g, rfl, _, h1, h2⟩
  · exact (markWordS_nil none cap k w).mono fun e w' ⟨he, hw⟩ => by subst hw; exact ⟨he, .inl ⟨rfl, rfl⟩, grown_nil (Below.refl _ _)⟩
  · exact (markWordS_any g n cap k hk w h2).mono fun e w' ⟨he, hF, gr⟩ => ⟨he, .inr ⟨g, rfl, Nat.lt_of_lt_of_le h1 gr.size, hF⟩, gr⟩
theorem heldWordS_fill (A : Option Addr) (n cap k : Nat) (w : World) (h : FillO w A n (n * 2) (markF wordKs k)) (hk : k + n * 2 ≤ 4611686018427387904) :
    Calls Try.prog 52 #[.slice A n cap, .int .i64 (k : Int)] w fun e w' => e = .returned (.int .i64 ((k + n * 2 : Nat) : Int)) ∧ Below w.heap.size w w' := by
  rcases h with ⟨rfl, rfl⟩ | ⟨g, rfl, h1, h2⟩
  · exact (heldWordS_nil none cap k w).mono fun e w' ⟨he, hw⟩ => by subst hw; exact ⟨he, Below.refl _ _⟩
  · exact heldWordS_any g n cap k hk w h2
set_option maxRecDepth 100000 in
theorem markSeatS_nil (A : Option Addr) (cap k : Nat) (w : World) : Calls Try.prog 34 #[.slice A 0 cap, .int .i64 (k : Int)] w fun e w' => e = .returned (.int .i64 (k : Int)) ∧ w = w' := by
  go_enter Try.func34, Try.ntmps34
  go_wp2_with fail
  go_loopw [1, 5] (fun kv i wr => i = .int .i64 0 ∧ kv = .int .i64 (k : Int) ∧ w = wr) (fun _ _ _ => 0)
  case atStart => exact ⟨rfl, rfl, rfl⟩
  case round =>
    obtain ⟨rfl, rfl, rfl⟩ := hrel
    go_wp2
    go_ret
    exact ⟨rfl, rfl⟩
set_option maxRecDepth 100000 in
theorem heldSeatS_nil (A : Option Addr) (cap k : Nat) (w : World) : Calls Try.prog 38 #[.slice A 0 cap, .int .i64 (k : Int)] w fun e w' => e = .returned (.int .i64 (k : Int)) ∧ w = w' := by
  go_enter Try.func38, Try.ntmps38
  go_wp2_with fail
  go_loopw [1, 5] (fun kv i wr => i = .int .i64 0 ∧ kv = .int .i64 (k : Int) ∧ w = wr) (fun _ _ _ => 0)
  case atStart => exact ⟨rfl, rfl, rfl⟩
  case round =>
    obtain ⟨rfl, rfl, rfl⟩ := hrel
    go_wp2
    go_ret
    exact ⟨rfl, rfl⟩

set_option maxRecDepth 100000 in
set_option maxHeartbeats 16000000 in
theorem markSeatS_held (A : Option Addr) (n cap k base : Nat) (hs : List SeatH) (ss : List SeatL) (w : World) (h : HeldS w base A n hs ss) (hk : k ≤ 4194304) (hn : n ≤ 1048576) (hb : ∀ x ∈ hs, x.n ≤ 1048576) :
    Calls Try.prog 34 #[.slice A n cap, .int .i64 (k : Int)] w fun e w' => e = .returned (.int .i64 ((k + marksN hs : Nat) : Int)) ∧ MarkedS w' A n k hs ∧ GrownS w w' (FootS A hs) := by
  by_cases hn0 : n = 0
  · subst hn0
    have hh : hs = [] := List.eq_nil_of_length_eq_zero h.len
    subst hh
    refine (markSeatS_nil A cap k w).mono ?_
    rintro e w' ⟨rfl, rfl⟩
    refine ⟨rfl, ⟨?_, fun i x hx => by simp at hx⟩, GrownS.refl _ _⟩
    rcases h.front with h1 | ⟨g, rfl, h1, h2, h3, h4⟩
    · exact .inl h1
    · exact .inr ⟨g, rfl, h2, fun i x hx => by simp at hx, fun i x hx => by simp at hx⟩
  obtain ⟨g, rfl⟩ : ∃ g, A = some ⟨g, 0, none⟩ := by
    rcases h.front with ⟨_, e⟩ | ⟨g, e, _⟩
    · exact absurd e hn0
    · exact ⟨g, e⟩
  have HS := Lib.hid (MarkJ.start (k := k) h)
  have AP := Lib.hid h.apart
  have HL := Lib.hid h.len
  have HB := Lib.hid hb
  have HZ : Hid (∀ j, kAt k hs j ≤ 2199050000000) := fun j => kAt_le j hk h.len hn hb
  obtain ⟨m, hm⟩ : ∃ m : Nat, k + marksN hs = m := ⟨_, rfl⟩
  have HM : Hid (kAt k hs n = m) := (kAt_all h.len).trans hm
  rw [hm]
  clear h hb hm
  go_enter Try.func34, Try.ntmps34
  go_wp2_with fail
  go_loopw [1, 5] (fun kv i wr => ∃ j : Nat, j ≤ n ∧ i = .int .i64 j ∧ kv = .int .i64 ((kAt k hs j : Nat) : Int) ∧ Hid (MarkJ w wr base g n k hs j j)) (fun _ i _ => n - (intOf i).toNat)
  case atStart => exact ⟨0, Nat.zero_le _, rfl, by rw [kAt_zero], HS.out⟩
  case round =>
    obtain ⟨j, hj, rfl, rfl, hM⟩ := hrel
    by_cases hlt : j < n
    · obtain ⟨x, hx'⟩ : ∃ x, hs[j]? = some x := ⟨_, List.getElem?_eq_getElem (by rw [HL.out]; exact hlt)⟩
      have HX := Lib.hid hx'
      have hxn : x.n ≤ 1048576 := HB.out x (List.mem_of_getElem? hx')
      have HK2 := Lib.hid (kAt_step (k := k) hx')
      clear hx'
      have hlt' : (j : Int) < (n : Int) := by omega
      have hj0 : (0 : Int) ≤ (j : Int) := by omega
      have hg := hM.out.lt
      obtain ⟨⟨v0, c0⟩, f0⟩ := hM.out.there (j * 15) (by omega) (by omega)
      obtain ⟨⟨v1, c1⟩, f1⟩ := hM.out.there (j * 15 + 1) (by omega) (by omega)
      obtain ⟨⟨v2, c2⟩, f2⟩ := hM.out.there (j * 15 + 2) (by omega) (by omega)
      obtain ⟨⟨v3, c3⟩, f3⟩ := hM.out.there (j * 15 + 3) (by omega) (by omega)
      obtain ⟨⟨v4, c4⟩, f4⟩ := hM.out.there (j * 15 + 4) (by omega) (by omega)
      obtain ⟨⟨v5, c5⟩, f5⟩ := hM.out.there (j * 15 + 5) (by omega) (by omega)
      obtain ⟨⟨v6, c6⟩, f6⟩ := hM.out.there (j * 15 + 6) (by omega) (by omega)
      obtain ⟨⟨v7, c7⟩, f7⟩ := hM.out.there (j * 15 + 7) (by omega) (by omega)
      obtain ⟨⟨v8, c8⟩, f8⟩ := hM.out.there (j * 15 + 8) (by omega) (by omega)
      obtain ⟨⟨v9, c9⟩, f9⟩ := hM.out.there (j * 15 + 9) (by omega) (by omega)
      obtain ⟨⟨v10, c10⟩, f10⟩ := hM.out.there (j * 15 + 10) (by omega) (by omega)
      obtain ⟨⟨v11, c11⟩, f11⟩ := hM.out.there (j * 15 + 11) (by omega) (by omega)
      obtain ⟨⟨v12, c12⟩, f12⟩ := hM.out.there (j * 15 + 12) (by omega) (by omega)
      obtain ⟨⟨v13, c13⟩, f13⟩ := hM.out.there (j * 15 + 13) (by omega) (by omega)
      have c14 := hM.out.slot j x HX.out
      have HA := Lib.hid (hM.out.row AP.out HX.out hlt)
      have hK1 := HZ.out j
      obtain ⟨K, hK⟩ : ∃ K, kAt k hs j = K := ⟨_, rfl⟩
      have HK := Lib.hid hK
      rw [hK] at hK1 HA HK2 ⊢
      clear hK hM
      go_wp2_with fail
      have e5 : (K : Int) + 1 + 1 + 1 + 1 + 1 + 1 + 1 + 1 + 1 + 1 + 1 + 1 + 1 + 1 = ((K + 14 : Nat) : Int) := by omega
      rw [e5]
      clear e5
      change Calls Try.prog _ _ (setAll wr g (j * 15) (FromK.cells ⟨K⟩)) _
      generalize setAll wr g (j * 15) (FromK.cells ⟨K⟩) = V at HA ⊢
      clear c0 c1 c2 c3 c4 c5 c6 c7 c8 c9 c10 c11 c12 c13 f0 f1 f2 f3 f4 f5 f6 f7 f8 f9 f10 f11 f12 f13 c14
      refine (markWordS_held x.A x.n x.c (K + 14) base V (HA.out.rest j x HX.out (Nat.le_refl _)) (by omega)).mono ?_
      rintro e w1 ⟨rfl, hF, gr⟩
      rw [← HK.out] at hF
      have HN := Lib.hid (HA.out.log AP.out HX.out hF gr)
      clear hF gr HA
      go_wp2
      go_roundw
      case rel => exact ⟨j + 1, by omega, by go_num, congrArg (Value.int .i64) (by have := HK2.out; omega), HN.out⟩
      case measure => simp [intOf]; omega
    · obtain rfl : j = n := by omega
      have hlt' : ¬ (j : Int) < (j : Int) := by omega
      rw [HM.out]
      go_wp2
      go_ret
      refine ⟨rfl, ⟨.inr ⟨g, rfl, hM.out.lt, hM.out.slot, fun i x hx => hM.out.nums i x hx ?_⟩, fun i x hx => hM.out.fill i x hx ?_⟩, hM.out.grown⟩
      · rw [← HL.out]; exact (List.getElem?_eq_some_iff.1 hx).1
      · rw [← HL.out]; exact (List.getElem?_eq_some_iff.1 hx).1
set_option maxRecDepth 100000 in
set_option maxHeartbeats 16000000 in
theorem heldSeatS_held (A : Option Addr) (n cap k : Nat) (hs : List SeatH) (w : World) (h : MarkedS w A n k hs) (hl : hs.length = n) (hk : k ≤ 4194304) (hn : n ≤ 1048576) (hb : ∀ x ∈ hs, x.n ≤ 1048576) :
    Calls Try.prog 38 #[.slice A n cap, .int .i64 (k : Int)] w fun e w' => e = .returned (.int .i64 ((k + marksN hs : Nat) : Int)) ∧ Below w.heap.size w w' := by
  by_cases hn0 : n = 0
  · subst hn0
    have hh : hs = [] := List.eq_nil_of_length_eq_zero hl
    subst hh
    refine (heldSeatS_nil A cap k w).mono ?_
    rintro e w' ⟨rfl, rfl⟩
    exact ⟨rfl, Below.refl _ _⟩
  obtain ⟨g, rfl, hg, hS, hN⟩ : ∃ g, A = some ⟨g, 0, none⟩ ∧ g < w.heap.size ∧ (∀ (i : Nat) (x : SeatH), hs[i]? = some x → w.cell? ⟨g, i * 15 + 14, none⟩ = some (.slice x.A x.n x.c)) ∧ ∀ (i : Nat) (x : SeatH), hs[i]? = some x → At w g (i * 15) (FromK.mk (kAt k hs i)) := by
    rcases h.front with ⟨_, e⟩ | ⟨g, e, h1, h2, h3⟩
    · exact absurd e hn0
    · exact ⟨g, e, h1, h2, h3⟩
  have HS := Lib.hid hS
  have HN := Lib.hid hN
  have HF := Lib.hid h.fill
  have HL := Lib.hid hl
  have HB := Lib.hid hb
  have HZ : Hid (∀ j, kAt k hs j ≤ 2199050000000) := fun j => kAt_le j hk hl hn hb
  obtain ⟨m, hm⟩ : ∃ m : Nat, k + marksN hs = m := ⟨_, rfl⟩
  have HM : Hid (kAt k hs n = m) := (kAt_all hl).trans hm
  rw [hm]
  clear h hS hN hl hb hm
  go_enter Try.func38, Try.ntmps38
  go_wp2_with fail
  go_loopw [1, 5] (fun kv i wr => ∃ j : Nat, j ≤ n ∧ i = .int .i64 j ∧ kv = .int .i64 ((kAt k hs j : Nat) : Int) ∧ Hid (Below w.heap.size w wr)) (fun _ i _ => n - (intOf i).toNat)
  case atStart => exact ⟨0, Nat.zero_le _, rfl, by rw [kAt_zero], Below.refl _ _⟩
  case round =>
    obtain ⟨j, hj, rfl, rfl, hW⟩ := hrel
    by_cases hlt : j < n
    · obtain ⟨x, hx'⟩ : ∃ x, hs[j]? = some x := ⟨_, List.getElem?_eq_getElem (by rw [HL.out]; exact hlt)⟩
      have HX := Lib.hid hx'
      have hxn : x.n ≤ 1048576 := HB.out x (List.mem_of_getElem? hx')
      have HK2 := Lib.hid (kAt_step (k := k) hx')
      clear hx'
      have hlt' : (j : Int) < (n : Int) := by omega
      have hj0 : (0 : Int) ≤ (j : Int) := by omega
      have hK1 := HZ.out j
      have hat := (HN.out j x HX.out).heap (hW.out.block g hg)
      have c14 : wr.cell? ⟨g, j * 15 + 14, none⟩ = some (.slice x.A x.n x.c) := (World.cell?_of_block (w := w) (a := ⟨g, _, none⟩) (hW.out.block g hg)).trans (HS.out j x HX.out)
      have hfl := Lib.hid ((HF.out j x HX.out).on hW.out)
      obtain ⟨K, hK⟩ : ∃ K, kAt k hs j = K := ⟨_, rfl⟩
      have HK := Lib.hid hK
      rw [hK] at hK1 hat hfl HK2 ⊢
      clear hK
      obtain ⟨c0, c1, c2, c3, c4, c5, c6, c7, c8, c9, c10, c11, c12, c13⟩ := fromK_at hat
      clear hat
      have cw := heldWordS_fill x.A x.n x.c (K + 14) wr hfl.out (by omega)
      have hk0 : ¬ ((K + 14 + x.n * 2 : Nat) : Int) < 0 := by omega
      go_wp2_with fail
      have e5 : (K : Int) + 1 + 1 + 1 + 1 + 1 + 1 + 1 + 1 + 1 + 1 + 1 + 1 + 1 + 1 = ((K + 14 : Nat) : Int) := by omega
      rw [e5]
      clear e5 c0 c1 c2 c3 c4 c5 c6 c7 c8 c9 c10 c11 c12 c13 c14
      refine cw.mono ?_
      rintro e w1 ⟨rfl, hb1⟩
      have HW := Lib.hid (hW.out.trans (hb1.mono hW.out.size))
      clear hb1 cw hfl
      go_wp2
      go_roundw
      case rel => exact ⟨j + 1, by omega, by go_num, congrArg (Value.int .i64) (by have := HK2.out; omega), HW.out⟩
      case measure => simp [intOf]; omega
    · obtain rfl : j = n := by omega
      have hlt' : ¬ (j : Int) < (j : Int) := by omega
      rw [HM.out]
      go_wp2
      go_ret
      exact ⟨rfl, hW.out⟩
theorem blk_off' {w w' : World} {row : Option Nat} {i : Nat} {x : Obj} (h : w.grownBy w' row) (hb : w.heap[i]? = some x) (hne : row ≠ some i) : w'.heap[i]? = some x := (h.block i (blk_in hb) (fun e => hne e.symm)).trans hb
end Go.Proofs.Ytakhjdodljhfmaa.Tx

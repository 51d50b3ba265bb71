/-
  What NewSeat of the model answers. No conditions.
-/
import Derived.Test.YtchdmmlkgglmcaaSeat
import Derived.Test.YtchdmmlkgglmcaaAns
namespace Go.Proofs.Ytchdmmlkgglmcaa.Tx
open Go.RowKit

set_option maxRecDepth 100000 in
set_option maxHeartbeats 16000000 in
theorem NewSeat_spec (h d p s : Int) (w : World) : Calls Try.prog 12 #[.int .i64 h, .int .i64 d, .int .i64 p, .int .i64 s] w fun e w' => e = .returned (.tuple #[(newSeatV h d p s).val none 0 0, .bool (newSeatB h d p s)]) ∧ Below w.heap.size w w' := by
  have G0' : goesP p s = false → newSeatV h d p s = .zero ∧ newSeatB h d p s = false := fun e => by
    have e1 : newSeatB h d p s = false := by rw [newSeatB, e]; rfl
    exact ⟨by rw [newSeatV, e1]; rfl, e1⟩
  have G1' : goesP p s = true → seatOkB (newSeatRaw h d p s) 0 = false → newSeatV h d p s = .zero ∧ newSeatB h d p s = false := fun e e2 => by
    have e1 : newSeatB h d p s = false := by rw [newSeatB, e, e2]; rfl
    exact ⟨by rw [newSeatV, e1]; rfl, e1⟩
  have G2' : goesP p s = true → seatOkB (newSeatRaw h d p s) 0 = true → newSeatV h d p s = newSeatRaw h d p s ∧ newSeatB h d p s = true := fun e e2 => by
    have e1 : newSeatB h d p s = true := by rw [newSeatB, e, e2]; rfl
    exact ⟨by rw [newSeatV, e1]; rfl, e1⟩
  have cFK' := fun w' => ForthKey_spec s h d w'
  have cEK' := fun w' => EarlyKey_spec s h w'
  have e1 : rightK ⟨4, s, h, d⟩ = forthK s h d := rfl
  have e2 : rightK ⟨1, s, h, 0⟩ = earlyK s h := rfl
  have r3 : p = 3 → newSeatRaw h d p s = ⟨1, h, d, p, ⟨earlyK s h, 0⟩, ⟨forthK s h d, 0⟩⟩ := fun hp => by rw [newSeatRaw, beq_int hp]; rfl
  have r4 : p ≠ 3 → newSeatRaw h d p s = ⟨1, h, d, p, .zero, ⟨forthK s h d, 0⟩⟩ := fun hp => by rw [newSeatRaw, bne_int hp]; rfl
  have cS := fun w' => SeatOk_spec (newSeatRaw h d p s) none 0 0 w'
  obtain ⟨⟨ku, ks, kh, ka⟩, hk⟩ : ∃ x, forthK s h d = x := ⟨_, rfl⟩
  obtain ⟨⟨qu, qs, qh, qa⟩, hq⟩ : ∃ x, earlyK s h = x := ⟨_, rfl⟩
  rw [e1, hk] at cFK'
  rw [e2, hq] at cEK'
  rw [hk, hq] at r3
  rw [hk] at r4
  clear e1 e2 hk hq
  obtain ⟨raw, hraw⟩ : ∃ x, newSeatRaw h d p s = x := ⟨_, rfl⟩
  rw [hraw] at G1' G2' r3 r4 cS
  clear hraw
  obtain ⟨zs, hzs⟩ : ∃ x, seatOkB raw 0 = x := ⟨_, rfl⟩
  rw [hzs] at G1' G2' cS
  clear hzs
  have cFK : Hid (∀ w' : World, Calls Try.prog 27 #[.int .i64 s, .int .i64 h, .int .i64 d] w' fun e w'' => e = .returned (.agg #[.int .i64 ku, .int .i64 ks, .int .i64 kh, .int .i64 ka]) ∧ Below w'.heap.size w' w'') := fun w' => cFK' w'
  have cEK : Hid (∀ w' : World, Calls Try.prog 28 #[.int .i64 s, .int .i64 h] w' fun e w'' => e = .returned (.agg #[.int .i64 qu, .int .i64 qs, .int .i64 qh, .int .i64 qa]) ∧ Below w'.heap.size w' w'') := fun w' => cEK' w'
  have cG := Lib.hid fun w' => l11Goes_any p s w'
  have cA3 : Hid (p = 3 → ∀ w' : World, Calls Try.prog 8 #[.agg #[.int .i64 1, .int .i64 h, .int .i64 d, .int .i64 p, .int .i64 qu, .int .i64 qs, .int .i64 qh, .int .i64 qa, .int .i64 0, .int .i64 ku, .int .i64 ks, .int .i64 kh, .int .i64 ka, .int .i64 0, .slice none 0 0]] w' fun e w'' => e = .returned (.bool zs) ∧ Below w'.heap.size w' w'') := fun hp w' => by
    have h1 := cS w'
    rw [r3 hp] at h1
    exact h1
  have cA4 : Hid (p ≠ 3 → ∀ w' : World, Calls Try.prog 8 #[.agg #[.int .i64 1, .int .i64 h, .int .i64 d, .int .i64 p, .int .i64 0, .int .i64 0, .int .i64 0, .int .i64 0, .int .i64 0, .int .i64 ku, .int .i64 ks, .int .i64 kh, .int .i64 ka, .int .i64 0, .slice none 0 0]] w' fun e w'' => e = .returned (.bool zs) ∧ Below w'.heap.size w' w'') := fun hp w' => by
    have h1 := cS w'
    rw [r4 hp] at h1
    exact h1
  generalize goesP p s = zg at G0' G1' G2' cG
  generalize newSeatV h d p s = out at G0' G1' G2' ⊢
  generalize newSeatB h d p s = ob at G0' G1' G2' ⊢
  have G0 := Lib.hid G0'
  have G1 := Lib.hid G1'
  have G3 : Hid (p = 3 → zg = true → zs = true → out = ⟨1, h, d, p, ⟨⟨qu, qs, qh, qa⟩, 0⟩, ⟨⟨ku, ks, kh, ka⟩, 0⟩⟩ ∧ ob = true) := fun hp a b => by
    have h1 := G2' a b
    rw [r3 hp] at h1
    exact h1
  have G4 : Hid (p ≠ 3 → zg = true → zs = true → out = ⟨1, h, d, p, .zero, ⟨⟨ku, ks, kh, ka⟩, 0⟩⟩ ∧ ob = true) := fun hp a b => by
    have h1 := G2' a b
    rw [r4 hp] at h1
    exact h1
  clear G0' G1' G2' cFK' cEK' cS r3 r4
  obtain ⟨W0, hW0⟩ : ∃ W, w.alloc (.cells #[.int .i64 0, .int .i64 0, .int .i64 0, .int .i64 0, .int .i64 0, .int .i64 0, .int .i64 0, .int .i64 0, .int .i64 0, .int .i64 0, .int .i64 0, .int .i64 0, .int .i64 0, .int .i64 0, .slice none 0 0] 36) = W := ⟨_, rfl⟩
  have K0 : Hid (Below w.heap.size w W0) := by rw [← hW0]; exact (Below.refl _ w).alloc (Nat.le_refl _) _
  have R0 : Hid (W0.heap[w.heap.size]? = some (.cells #[.int .i64 0, .int .i64 0, .int .i64 0, .int .i64 0, .int .i64 0, .int .i64 0, .int .i64 0, .int .i64 0, .int .i64 0, .int .i64 0, .int .i64 0, .int .i64 0, .int .i64 0, .int .i64 0, .slice none 0 0] 36)) := by rw [← hW0]; exact heap1 w _
  go_enter Try.func12, Try.ntmps12
  obtain ⟨V1, hV1⟩ : ∃ V, W0.alloc (.cells #[.int .i64 0, .int .i64 0, .int .i64 0, .int .i64 0, .int .i64 0, .int .i64 0, .int .i64 0, .int .i64 0, .int .i64 0, .int .i64 0, .int .i64 0, .int .i64 0, .int .i64 0, .int .i64 0, .slice none 0 0] 36) = V := ⟨_, rfl⟩
  have ltV1R : w.heap.size < W0.heap.size := blk_in R0.out
  have R1 : Hid (V1.heap[w.heap.size]? = some (.cells #[.int .i64 0, .int .i64 0, .int .i64 0, .int .i64 0, .int .i64 0, .int .i64 0, .int .i64 0, .int .i64 0, .int .i64 0, .int .i64 0, .int .i64 0, .int .i64 0, .int .i64 0, .int .i64 0, .slice none 0 0] 36)) := by rw [← hV1]; exact alloc_blk R0.out
  have hb : Below W0.heap.size W0 V1 := by rw [← hV1]; exact (Below.refl _ W0).alloc (Nat.le_refl _) _
  have K1 := Lib.hid (K0.out.trans (hb.mono K0.out.size))
  have A1 : Hid (V1.heap[W0.heap.size]? = some (.cells #[.int .i64 0, .int .i64 0, .int .i64 0, .int .i64 0, .int .i64 0, .int .i64 0, .int .i64 0, .int .i64 0, .int .i64 0, .int .i64 0, .int .i64 0, .int .i64 0, .int .i64 0, .int .i64 0, .slice none 0 0] 36)) := by rw [← hV1]; exact heap1 W0 _
  have lbV1 : w.heap.size ≤ W0.heap.size := K0.out.size
  clear hb R0 K0
  have R2 : Hid ((V1.setRow W0.heap.size #[.int .i64 1, .int .i64 h, .int .i64 d, .int .i64 p, .int .i64 0, .int .i64 0, .int .i64 0, .int .i64 0, .int .i64 0, .int .i64 0, .int .i64 0, .int .i64 0, .int .i64 0, .int .i64 0, .slice none 0 0]).heap[w.heap.size]? = some (.cells #[.int .i64 0, .int .i64 0, .int .i64 0, .int .i64 0, .int .i64 0, .int .i64 0, .int .i64 0, .int .i64 0, .int .i64 0, .int .i64 0, .int .i64 0, .int .i64 0, .int .i64 0, .int .i64 0, .slice none 0 0] 36)) := (setRow_other _ _ _ _ (by omega)).trans R1.out
  have A2 : Hid ((V1.setRow W0.heap.size #[.int .i64 1, .int .i64 h, .int .i64 d, .int .i64 p, .int .i64 0, .int .i64 0, .int .i64 0, .int .i64 0, .int .i64 0, .int .i64 0, .int .i64 0, .int .i64 0, .int .i64 0, .int .i64 0, .slice none 0 0]).heap[W0.heap.size]? = some (.cells #[.int .i64 1, .int .i64 h, .int .i64 d, .int .i64 p, .int .i64 0, .int .i64 0, .int .i64 0, .int .i64 0, .int .i64 0, .int .i64 0, .int .i64 0, .int .i64 0, .int .i64 0, .int .i64 0, .slice none 0 0] 36)) := setRow_heap _ _ _ _ _ _ A1.out
  have K2 : Hid (Below w.heap.size w (V1.setRow W0.heap.size #[.int .i64 1, .int .i64 h, .int .i64 d, .int .i64 p, .int .i64 0, .int .i64 0, .int .i64 0, .int .i64 0, .int .i64 0, .int .i64 0, .int .i64 0, .int .i64 0, .int .i64 0, .int .i64 0, .slice none 0 0])) := below_setRow K1.out (by omega) _
  go_wp2_with (refine wpList_store_row rfl 36 _ _ rfl (W0.heap.size) #[.int .i64 1, .int .i64 h, .int .i64 d, .int .i64 p, .int .i64 0, .int .i64 0, .int .i64 0, .int .i64 0, .int .i64 0, .int .i64 0, .int .i64 0, .int .i64 0, .int .i64 0, .int .i64 0, .slice none 0 0] rfl rfl 36 _ A1.out (by kernel_rfl) rfl (by simp [Value.oneCell']) ?_)
  clear hW0 hV1 R1 A1 K1
  generalize V1.setRow W0.heap.size #[.int .i64 1, .int .i64 h, .int .i64 d, .int .i64 p, .int .i64 0, .int .i64 0, .int .i64 0, .int .i64 0, .int .i64 0, .int .i64 0, .int .i64 0, .int .i64 0, .int .i64 0, .int .i64 0, .slice none 0 0] = S2 at R2 A2 K2 ⊢
  refine (cFK.out _).mono ?_
  rintro e w3 ⟨rfl, hb⟩
  have R3 := Lib.hid (blk_on hb R2.out)
  have A3 := Lib.hid (blk_on hb A2.out)
  have K3 := Lib.hid (K2.out.trans (hb.mono K2.out.size))
  clear hb R2 A2 K2
  obtain ⟨⟨a0, a1, a2, a3, a4, a5, a6, a7, a8, a9, a10, a11, a12, a13, a14⟩, az0, az1, az2, az3, az4, az5, az6, az7, az8, az9, az10, az11, az12, az13, az14⟩ := blk15 A3.out
  obtain ⟨S4, qS4⟩ : ∃ W, setAll w3 W0.heap.size 9 [.int .i64 ku, .int .i64 ks, .int .i64 kh, .int .i64 ka, .int .i64 0] = W := ⟨_, rfl⟩
  have hS4 : (((((w3.setCell ⟨W0.heap.size, 9, none⟩ (.int .i64 ku)).setCell ⟨W0.heap.size, 10, none⟩ (.int .i64 ks)).setCell ⟨W0.heap.size, 11, none⟩ (.int .i64 kh)).setCell ⟨W0.heap.size, 12, none⟩ (.int .i64 ka)).setCell ⟨W0.heap.size, 13, none⟩ (.int .i64 0)) = S4 := qS4
  have R4 : Hid (S4.heap[w.heap.size]? = some (.cells #[.int .i64 0, .int .i64 0, .int .i64 0, .int .i64 0, .int .i64 0, .int .i64 0, .int .i64 0, .int .i64 0, .int .i64 0, .int .i64 0, .int .i64 0, .int .i64 0, .int .i64 0, .int .i64 0, .slice none 0 0] 36)) := by rw [← qS4]; exact setAll_away (by omega) _ _ R3.out
  have A4 : Hid (S4.heap[W0.heap.size]? = some (.cells #[.int .i64 1, .int .i64 h, .int .i64 d, .int .i64 p, .int .i64 0, .int .i64 0, .int .i64 0, .int .i64 0, .int .i64 0, .int .i64 ku, .int .i64 ks, .int .i64 kh, .int .i64 ka, .int .i64 0, .slice none 0 0] 36)) := by
    rw [← qS4]
    refine (setAll_blk (w := w3) (g := W0.heap.size) [.int .i64 ku, .int .i64 ks, .int .i64 kh, .int .i64 ka, .int .i64 0] 9 A3.out).trans ?_
    refine congrArg (fun z => some (Obj.cells z 36 (0, 0))) (Array.toList_inj.1 ?_)
    rw [overA_toList _ _ _ (by simp)]
    rfl
  have K4 : Hid (Below w.heap.size w S4) := by rw [← qS4]; exact setAll_below (g := W0.heap.size) (by omega) [.int .i64 ku, .int .i64 ks, .int .i64 kh, .int .i64 ka, .int .i64 0] 9 K3.out
  have zS4 : w3.heap.size = S4.heap.size := by rw [← qS4]; exact (setAll_size [.int .i64 ku, .int .i64 ks, .int .i64 kh, .int .i64 ka, .int .i64 0] 9 _).symm
  clear qS4 R3 A3 K3
  by_cases hp : p = 3
  ·
    have hp' : (p == 3) = true := beq_int hp
    have HA3 := Lib.hid (cA3.out hp)
    have HG3 := Lib.hid (G3.out hp)
    clear hp cA3 cA4 G3 G4
    go_wp2_with fail
    clear a0 a1 a2 a3 a4 a5 a6 a7 a8 a9 a10 a11 a12 a13 a14 az0 az1 az2 az3 az4 az5 az6 az7 az8 az9 az10 az11 az12 az13 az14
    clear hS4
    refine (cEK.out _).mono ?_
    rintro e w5 ⟨rfl, hb⟩
    have R5 := Lib.hid (blk_on hb R4.out)
    have A5 := Lib.hid (blk_on hb A4.out)
    have K5 := Lib.hid (K4.out.trans (hb.mono K4.out.size))
    clear hb R4 A4 K4
    obtain ⟨⟨b0, b1, b2, b3, b4, b5, b6, b7, b8, b9, b10, b11, b12, b13, b14⟩, bz0, bz1, bz2, bz3, bz4, bz5, bz6, bz7, bz8, bz9, bz10, bz11, bz12, bz13, bz14⟩ := blk15 A5.out
    obtain ⟨S6, qS6⟩ : ∃ W, setAll w5 W0.heap.size 4 [.int .i64 qu, .int .i64 qs, .int .i64 qh, .int .i64 qa, .int .i64 0] = W := ⟨_, rfl⟩
    have hS6 : (((((w5.setCell ⟨W0.heap.size, 4, none⟩ (.int .i64 qu)).setCell ⟨W0.heap.size, 5, none⟩ (.int .i64 qs)).setCell ⟨W0.heap.size, 6, none⟩ (.int .i64 qh)).setCell ⟨W0.heap.size, 7, none⟩ (.int .i64 qa)).setCell ⟨W0.heap.size, 8, none⟩ (.int .i64 0)) = S6 := qS6
    have R6 : Hid (S6.heap[w.heap.size]? = some (.cells #[.int .i64 0, .int .i64 0, .int .i64 0, .int .i64 0, .int .i64 0, .int .i64 0, .int .i64 0, .int .i64 0, .int .i64 0, .int .i64 0, .int .i64 0, .int .i64 0, .int .i64 0, .int .i64 0, .slice none 0 0] 36)) := by rw [← qS6]; exact setAll_away (by omega) _ _ R5.out
    have A6 : Hid (S6.heap[W0.heap.size]? = some (.cells #[.int .i64 1, .int .i64 h, .int .i64 d, .int .i64 p, .int .i64 qu, .int .i64 qs, .int .i64 qh, .int .i64 qa, .int .i64 0, .int .i64 ku, .int .i64 ks, .int .i64 kh, .int .i64 ka, .int .i64 0, .slice none 0 0] 36)) := by
      rw [← qS6]
      refine (setAll_blk (w := w5) (g := W0.heap.size) [.int .i64 qu, .int .i64 qs, .int .i64 qh, .int .i64 qa, .int .i64 0] 4 A5.out).trans ?_
      refine congrArg (fun z => some (Obj.cells z 36 (0, 0))) (Array.toList_inj.1 ?_)
      rw [overA_toList _ _ _ (by simp)]
      rfl
    have K6 : Hid (Below w.heap.size w S6) := by rw [← qS6]; exact setAll_below (g := W0.heap.size) (by omega) [.int .i64 qu, .int .i64 qs, .int .i64 qh, .int .i64 qa, .int .i64 0] 4 K5.out
    have zS6 : w5.heap.size = S6.heap.size := by rw [← qS6]; exact (setAll_size [.int .i64 qu, .int .i64 qs, .int .i64 qh, .int .i64 qa, .int .i64 0] 4 _).symm
    clear qS6 R5 A5 K5
    go_wp2_with fail
    clear b0 b1 b2 b3 b4 b5 b6 b7 b8 b9 b10 b11 b12 b13 b14 bz0 bz1 bz2 bz3 bz4 bz5 bz6 bz7 bz8 bz9 bz10 bz11 bz12 bz13 bz14
    clear hS6
    refine (cG.out _).mono ?_
    rintro e w7 ⟨rfl, hb⟩
    have R7 := Lib.hid (blk_on hb R6.out)
    have A7 := Lib.hid (blk_on hb A6.out)
    have K7 := Lib.hid (K6.out.trans (hb.mono K6.out.size))
    clear hb R6 A6 K6
    cases zg with
    | false =>
      have HE := Lib.hid (G0.out rfl)
      go_wp2_with (refine wpList_store_row rfl 36 _ _ rfl (w.heap.size) #[.int .i64 0, .int .i64 0, .int .i64 0, .int .i64 0, .int .i64 0, .int .i64 0, .int .i64 0, .int .i64 0, .int .i64 0, .int .i64 0, .int .i64 0, .int .i64 0, .int .i64 0, .int .i64 0, .slice none 0 0] rfl rfl 36 _ R7.out (by kernel_rfl) rfl (by simp [Value.oneCell']) ?_)
      exact row_ret2 (r := w.heap.size) (cs := #[.int .i64 0, .int .i64 0, .int .i64 0, .int .i64 0, .int .i64 0, .int .i64 0, .int .i64 0, .int .i64 0, .int .i64 0, .int .i64 0, .int .i64 0, .int .i64 0, .int .i64 0, .int .i64 0, .slice none 0 0]) rfl rfl rfl (setRow_heap _ _ _ _ _ _ R7.out) Try.underlying36 rfl (by kernel_rfl) rfl ⟨by rw [HE.out.1, HE.out.2]; rfl, below_setRow K7.out (by omega) _⟩
    | true =>
      go_wp2_with (refine wpList_load_wanted rfl 36 _ rfl (W0.heap.size) rfl 36 _ (0, 0) _ A7.out Try.underlying36 rfl (by kernel_rfl) ?_)
      refine (HA3.out _).mono ?_
      rintro e w8 ⟨rfl, hb⟩
      have R8 := Lib.hid (blk_on hb R7.out)
      have A8 := Lib.hid (blk_on hb A7.out)
      have K8 := Lib.hid (K7.out.trans (hb.mono K7.out.size))
      clear hb R7 A7 K7
      cases zs with
      | false =>
        have HE := Lib.hid (G1.out (by trivial) rfl)
        go_wp2_with (refine wpList_store_row rfl 36 _ _ rfl (w.heap.size) #[.int .i64 0, .int .i64 0, .int .i64 0, .int .i64 0, .int .i64 0, .int .i64 0, .int .i64 0, .int .i64 0, .int .i64 0, .int .i64 0, .int .i64 0, .int .i64 0, .int .i64 0, .int .i64 0, .slice none 0 0] rfl rfl 36 _ R8.out (by kernel_rfl) rfl (by simp [Value.oneCell']) ?_)
        exact row_ret2 (r := w.heap.size) (cs := #[.int .i64 0, .int .i64 0, .int .i64 0, .int .i64 0, .int .i64 0, .int .i64 0, .int .i64 0, .int .i64 0, .int .i64 0, .int .i64 0, .int .i64 0, .int .i64 0, .int .i64 0, .int .i64 0, .slice none 0 0]) rfl rfl rfl (setRow_heap _ _ _ _ _ _ R8.out) Try.underlying36 rfl (by kernel_rfl) rfl ⟨by rw [HE.out.1, HE.out.2]; rfl, below_setRow K8.out (by omega) _⟩
      | true =>
        have HE := Lib.hid (HG3.out (by trivial) rfl)
        go_wp2_with (first | (refine wpList_load_row rfl 36 _ rfl (W0.heap.size) rfl 36 _ (0, 0) _ A8.out Try.underlying36 rfl (by kernel_rfl) ?_) | (refine wpList_store_row rfl 36 _ _ rfl (w.heap.size) #[.int .i64 1, .int .i64 h, .int .i64 d, .int .i64 p, .int .i64 qu, .int .i64 qs, .int .i64 qh, .int .i64 qa, .int .i64 0, .int .i64 ku, .int .i64 ks, .int .i64 kh, .int .i64 ka, .int .i64 0, .slice none 0 0] rfl rfl 36 _ R8.out (by kernel_rfl) rfl (by simp [Value.oneCell']) ?_))
        exact row_ret2 (r := w.heap.size) (cs := #[.int .i64 1, .int .i64 h, .int .i64 d, .int .i64 p, .int .i64 qu, .int .i64 qs, .int .i64 qh, .int .i64 qa, .int .i64 0, .int .i64 ku, .int .i64 ks, .int .i64 kh, .int .i64 ka, .int .i64 0, .slice none 0 0]) rfl rfl rfl (setRow_heap _ _ _ _ _ _ R8.out) Try.underlying36 rfl (by kernel_rfl) rfl ⟨by rw [HE.out.1, HE.out.2]; rfl, below_setRow K8.out (by omega) _⟩
  ·
    have hp' : (p == 3) = false := bne_int hp
    have HA3 := Lib.hid (cA4.out hp)
    have HG3 := Lib.hid (G4.out hp)
    clear hp cA3 cA4 G3 G4
    go_wp2_with fail
    clear a0 a1 a2 a3 a4 a5 a6 a7 a8 a9 a10 a11 a12 a13 a14 az0 az1 az2 az3 az4 az5 az6 az7 az8 az9 az10 az11 az12 az13 az14
    clear hS4
    refine (cG.out _).mono ?_
    rintro e w5 ⟨rfl, hb⟩
    have R5 := Lib.hid (blk_on hb R4.out)
    have A5 := Lib.hid (blk_on hb A4.out)
    have K5 := Lib.hid (K4.out.trans (hb.mono K4.out.size))
    clear hb R4 A4 K4
    cases zg with
    | false =>
      have HE := Lib.hid (G0.out rfl)
      go_wp2_with (refine wpList_store_row rfl 36 _ _ rfl (w.heap.size) #[.int .i64 0, .int .i64 0, .int .i64 0, .int .i64 0, .int .i64 0, .int .i64 0, .int .i64 0, .int .i64 0, .int .i64 0, .int .i64 0, .int .i64 0, .int .i64 0, .int .i64 0, .int .i64 0, .slice none 0 0] rfl rfl 36 _ R5.out (by kernel_rfl) rfl (by simp [Value.oneCell']) ?_)
      exact row_ret2 (r := w.heap.size) (cs := #[.int .i64 0, .int .i64 0, .int .i64 0, .int .i64 0, .int .i64 0, .int .i64 0, .int .i64 0, .int .i64 0, .int .i64 0, .int .i64 0, .int .i64 0, .int .i64 0, .int .i64 0, .int .i64 0, .slice none 0 0]) rfl rfl rfl (setRow_heap _ _ _ _ _ _ R5.out) Try.underlying36 rfl (by kernel_rfl) rfl ⟨by rw [HE.out.1, HE.out.2]; rfl, below_setRow K5.out (by omega) _⟩
    | true =>
      go_wp2_with (refine wpList_load_wanted rfl 36 _ rfl (W0.heap.size) rfl 36 _ (0, 0) _ A5.out Try.underlying36 rfl (by kernel_rfl) ?_)
      refine (HA3.out _).mono ?_
      rintro e w6 ⟨rfl, hb⟩
      have R6 := Lib.hid (blk_on hb R5.out)
      have A6 := Lib.hid (blk_on hb A5.out)
      have K6 := Lib.hid (K5.out.trans (hb.mono K5.out.size))
      clear hb R5 A5 K5
      cases zs with
      | false =>
        have HE := Lib.hid (G1.out (by trivial) rfl)
        go_wp2_with (refine wpList_store_row rfl 36 _ _ rfl (w.heap.size) #[.int .i64 0, .int .i64 0, .int .i64 0, .int .i64 0, .int .i64 0, .int .i64 0, .int .i64 0, .int .i64 0, .int .i64 0, .int .i64 0, .int .i64 0, .int .i64 0, .int .i64 0, .int .i64 0, .slice none 0 0] rfl rfl 36 _ R6.out (by kernel_rfl) rfl (by simp [Value.oneCell']) ?_)
        exact row_ret2 (r := w.heap.size) (cs := #[.int .i64 0, .int .i64 0, .int .i64 0, .int .i64 0, .int .i64 0, .int .i64 0, .int .i64 0, .int .i64 0, .int .i64 0, .int .i64 0, .int .i64 0, .int .i64 0, .int .i64 0, .int .i64 0, .slice none 0 0]) rfl rfl rfl (setRow_heap _ _ _ _ _ _ R6.out) Try.underlying36 rfl (by kernel_rfl) rfl ⟨by rw [HE.out.1, HE.out.2]; rfl, below_setRow K6.out (by omega) _⟩
      | true =>
        have HE := Lib.hid (HG3.out (by trivial) rfl)
        go_wp2_with (first | (refine wpList_load_row rfl 36 _ rfl (W0.heap.size) rfl 36 _ (0, 0) _ A6.out Try.underlying36 rfl (by kernel_rfl) ?_) | (refine wpList_store_row rfl 36 _ _ rfl (w.heap.size) #[.int .i64 1, .int .i64 h, .int .i64 d, .int .i64 p, .int .i64 0, .int .i64 0, .int .i64 0, .int .i64 0, .int .i64 0, .int .i64 ku, .int .i64 ks, .int .i64 kh, .int .i64 ka, .int .i64 0, .slice none 0 0] rfl rfl 36 _ R6.out (by kernel_rfl) rfl (by simp [Value.oneCell']) ?_))
        exact row_ret2 (r := w.heap.size) (cs := #[.int .i64 1, .int .i64 h, .int .i64 d, .int .i64 p, .int .i64 0, .int .i64 0, .int .i64 0, .int .i64 0, .int .i64 0, .int .i64 ku, .int .i64 ks, .int .i64 kh, .int .i64 ka, .int .i64 0, .slice none 0 0]) rfl rfl rfl (setRow_heap _ _ _ _ _ _ R6.out) Try.underlying36 rfl (by kernel_rfl) rfl ⟨by rw [HE.out.1, HE.out.2]; rfl, below_setRow K6.out (by omega) _⟩

end Go.Proofs.Ytchdmmlkgglmcaa.Tx

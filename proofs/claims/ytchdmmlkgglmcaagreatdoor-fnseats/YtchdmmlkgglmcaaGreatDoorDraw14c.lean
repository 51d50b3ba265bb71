/-
  What NewSeat of the model answers. No conditions.
  A list that a call made, or nil. Nothing of the program is named here. No conditions.
  What is written into a list that a call made, or nil. Nothing of the program is named here. No conditions.
  markSeat and heldSeat of a seat whose list a call made, or is nil; how long a log may become. Conditions: at most 1048576 words.
  What the model draws for chapter 1: a string of at most 13 bytes; a list of at most 5 such strings in new memory; nothing that lay is written. Condition: the draw's code has at most 4096 bytes.
  A region of a draw: its callees move the cursor and make memory. No conditions. Nothing of the program is named here, but the cursor's type.
  What the model draws for chapter 5: a row, a text, a box, lists of these. Condition: the draw's code has at most 4096 bytes.
  What the model draws for chapter 14: a seat, and boxes that are meant for it. Condition: the draw's code has at most 4096 bytes.
  What the model draws for chapter 14: a seat that heard some boxes, changed at times. Condition: the draw's code has at most 4096 bytes.
  What the model draws for chapter 14 at the face: a seat; a seat and a box; what a seat is made of. Condition: the draw's code has at most 4096 bytes.
-/
import Derived.Test.YtchdmmlkgglmcaaGreatDoorSeat
import Derived.Test.YtchdmmlkgglmcaaGreatDoorAns
import Derived.Test.YtchdmmlkgglmcaaGreatDoorCopyE
import Derived.Test.YtchdmmlkgglmcaaGreatDoorHears
import Derived.Test.YtchdmmlkgglmcaaGreatDoorSeat6
import Derived.Test.YtchdmmlkgglmcaaGreatDoorCurNew
import Derived.Test.YtchdmmlkgglmcaaGreatDoorLists
import Derived.Test.YtchdmmlkgglmcaaGreatDoorDraw1t
import Derived.Test.YtchdmmlkgglmcaaGreatDoorFacts
import Derived.Test.YtchdmmlkgglmcaaGreatDoorOffs
import Derived.Test.YtchdmmlkgglmcaaGreatDoorRegionO
import Derived.Test.YtchdmmlkgglmcaaGreatDoorDraw4
import Derived.Test.YtchdmmlkgglmcaaGreatDoorRowAll
import Derived.Test.YtchdmmlkgglmcaaGreatDoorDraw11
namespace Go.Proofs.YtchdmmlkgglmcaaGreatDoor.Tx
open Go.RowKit

set_option maxRecDepth 100000 in
set_option maxHeartbeats 16000000 in
theorem NewSeat_spec (h d p s : Int) (w : World) : Calls Tryz.prog 19 #[.int .i64 h, .int .i64 d, .int .i64 p, .int .i64 s] w fun e w' => e = .returned (.tuple #[(newSeatV h d p s).val none 0 0, .bool (newSeatB h d p s)]) ∧ Below w.heap.size w w' := by
  have G0' : goesP p s = false → newSeatV h d p s = .zero ∧ newSeatB h d p s = false := fun e => by
    have e1 : newSeatB h d p s = false := by rw [newSeatB, e]; rfl
    exact ⟨by rw [newSeatV, e1]; rfl, e1⟩
  have G1' : goesP p s = true → seatOkB (newSeatRaw h d p s) 0 = false → newSeatV h d p s = .zero ∧ newSeatB h d p s = false := fun e e2 => by
    have e1 : newSeatB h d p s = false := by rw [newSeatB, e, e2]; rfl
    exact ⟨by rw [newSeatV, e1]; rfl, e1⟩
  have G2' : goesP p s = true → seatOkB (newSeatRaw h d p s) 0 = true → newSeatV h d p s = newSeatRaw h d p s ∧ newSeatB h d p s = true := fun e e2 => by
    have e1 : newSeatB h d p s = true := by rw [newSeatB, e, e2]; rfl
    exact ⟨by rw [newSeatV, e1]; rfl, e1⟩
  have cFK' := fun w' => ForthKey_spec s h d w'
  have cEK' := fun w' => EarlyKey_spec s h w'
  have e1 : rightK ⟨4, s, h, d⟩ = forthK s h d := rfl
  have e2 : rightK ⟨1, s, h, 0⟩ = earlyK s h := rfl
  have r3 : p = 3 → newSeatRaw h d p s = ⟨1, h, d, p, ⟨earlyK s h, 0⟩, ⟨forthK s h d, 0⟩⟩ := fun hp => by rw [newSeatRaw, beq_int hp]; rfl
  have r4 : p ≠ 3 → newSeatRaw h d p s = ⟨1, h, d, p, .zero, ⟨forthK s h d, 0⟩⟩ := fun hp => by rw [newSeatRaw, bne_int hp]; rfl
  have cS := fun w' => SeatOk_spec (newSeatRaw h d p s) none 0 0 w'
  obtain ⟨⟨ku, ks, kh, ka⟩, hk⟩ : ∃ x, forthK s h d = x := ⟨_, rfl⟩
  obtain ⟨⟨qu, qs, qh, qa⟩, hq⟩ : ∃ x, earlyK s h = x := ⟨_, rfl⟩
  rw [e1, hk] at cFK'
  rw [e2, hq] at cEK'
  rw [hk, hq] at r3
  rw [hk] at r4
  clear e1 e2 hk hq
  obtain ⟨raw, hraw⟩ : ∃ x, newSeatRaw h d p s = x := ⟨_, rfl⟩
  rw [hraw] at G1' G2' r3 r4 cS
  clear hraw
  obtain ⟨zs, hzs⟩ : ∃ x, seatOkB raw 0 = x := ⟨_, rfl⟩
  rw [hzs] at G1' G2' cS
  clear hzs
  have cFK : Hid (∀ w' : World, Calls Tryz.prog 43 #[.int .i64 s, .int .i64 h, .int .i64 d] w' fun e w'' => e = .returned (.agg #[.int .i64 ku, .int .i64 ks, .int .i64 kh, .int .i64 ka]) ∧ Below w'.heap.size w' w'') := fun w' => cFK' w'
  have cEK : Hid (∀ w' : World, Calls Tryz.prog 44 #[.int .i64 s, .int .i64 h] w' fun e w'' => e = .returned (.agg #[.int .i64 qu, .int .i64 qs, .int .i64 qh, .int .i64 qa]) ∧ Below w'.heap.size w' w'') := fun w' => cEK' w'
  have cG := Lib.hid fun w' => l11Goes_any p s w'
  have cA3 : Hid (p = 3 → ∀ w' : World, Calls Tryz.prog 13 #[.agg #[.int .i64 1, .int .i64 h, .int .i64 d, .int .i64 p, .int .i64 qu, .int .i64 qs, .int .i64 qh, .int .i64 qa, .int .i64 0, .int .i64 ku, .int .i64 ks, .int .i64 kh, .int .i64 ka, .int .i64 0, .slice none 0 0]] w' fun e w'' => e = .returned (.bool zs) ∧ Below w'.heap.size w' w'') := fun hp w' => by
    have h1 := cS w'
    rw [r3 hp] at h1
    exact h1
  have cA4 : Hid (p ≠ 3 → ∀ w' : World, Calls Tryz.prog 13 #[.agg #[.int .i64 1, .int .i64 h, .int .i64 d, .int .i64 p, .int .i64 0, .int .i64 0, .int .i64 0, .int .i64 0, .int .i64 0, .int .i64 ku, .int .i64 ks, .int .i64 kh, .int .i64 ka, .int .i64 0, .slice none 0 0]] w' fun e w'' => e = .returned (.bool zs) ∧ Below w'.heap.size w' w'') := fun hp w' => by
    have h1 := cS w'
    rw [r4 hp] at h1
    exact h1
  generalize goesP p s = zg at G0' G1' G2' cG
  generalize newSeatV h d p s = out at G0' G1' G2' ⊢
  generalize newSeatB h d p s = ob at G0' G1' G2' ⊢
  have G0 := Lib.hid G0'
  have G1 := Lib.hid G1'
  have G3 : Hid (p = 3 → zg = true → zs = true → out = ⟨1, h, d, p, ⟨⟨qu, qs, qh, qa⟩, 0⟩, ⟨⟨ku, ks, kh, ka⟩, 0⟩⟩ ∧ ob = true) := fun hp a b => by
    have h1 := G2' a b
    rw [r3 hp] at h1
    exact h1
  have G4 : Hid (p ≠ 3 → zg = true → zs = true → out = ⟨1, h, d, p, .zero, ⟨⟨ku, ks, kh, ka⟩, 0⟩⟩ ∧ ob = true) := fun hp a b => by
    have h1 := G2' a b
    rw [r4 hp] at h1
    exact h1
  clear G0' G1' G2' cFK' cEK' cS r3 r4
  obtain ⟨W0, hW0⟩ : ∃ W, w.alloc (.cells #[.int .i64 0, .int .i64 0, .int .i64 0, .int .i64 0, .int .i64 0, .int .i64 0, .int .i64 0, .int .i64 0, .int .i64 0, .int .i64 0, .int .i64 0, .int .i64 0, .int .i64 0, .int .i64 0, .slice none 0 0] 30) = W := ⟨_, rfl⟩
  have K0 : Hid (Below w.heap.size w W0) := by rw [← hW0]; exact (Below.refl _ w).alloc (Nat.le_refl _) _
  have R0 : Hid (W0.heap[w.heap.size]? = some (.cells #[.int .i64 0, .int .i64 0, .int .i64 0, .int .i64 0, .int .i64 0, .int .i64 0, .int .i64 0, .int .i64 0, .int .i64 0, .int .i64 0, .int .i64 0, .int .i64 0, .int .i64 0, .int .i64 0, .slice none 0 0] 30)) := by rw [← hW0]; exact heap1 w _
  go_enter Tryz.func19, Tryz.ntmps19
  obtain ⟨V1, hV1⟩ : ∃ V, W0.alloc (.cells #[.int .i64 0, .int .i64 0, .int .i64 0, .int .i64 0, .int .i64 0, .int .i64 0, .int .i64 0, .int .i64 0, .int .i64 0, .int .i64 0, .int .i64 0, .int .i64 0, .int .i64 0, .int .i64 0, .slice none 0 0] 30) = V := ⟨_, rfl⟩
  have ltV1R : w.heap.size < W0.heap.size := blk_in R0.out
  have R1 : Hid (V1.heap[w.heap.size]? = some (.cells #[.int .i64 0, .int .i64 0, .int .i64 0, .int .i64 0, .int .i64 0, .int .i64 0, .int .i64 0, .int .i64 0, .int .i64 0, .int .i64 0, .int .i64 0, .int .i64 0, .int .i64 0, .int .i64 0, .slice none 0 0] 30)) := by rw [← hV1]; exact alloc_blk R0.out
  have hb : Below W0.heap.size W0 V1 := by rw [← hV1]; exact (Below.refl _ W0).alloc (Nat.le_refl _) _
  have K1 := Lib.hid (K0.out.trans (hb.mono K0.out.size))
  have A1 : Hid (V1.heap[W0.heap.size]? = some (.cells #[.int .i64 0, .int .i64 0, .int .i64 0, .int .i64 0, .int .i64 0, .int .i64 0, .int .i64 0, .int .i64 0, .int .i64 0, .int .i64 0, .int .i64 0, .int .i64 0, .int .i64 0, .int .i64 0, .slice none 0 0] 30)) := by rw [← hV1]; exact heap1 W0 _
  have lbV1 : w.heap.size ≤ W0.heap.size := K0.out.size
  clear hb R0 K0
  have R2 : Hid ((V1.setRow W0.heap.size #[.int .i64 1, .int .i64 h, .int .i64 d, .int .i64 p, .int .i64 0, .int .i64 0, .int .i64 0, .int .i64 0, .int .i64 0, .int .i64 0, .int .i64 0, .int .i64 0, .int .i64 0, .int .i64 0, .slice none 0 0]).heap[w.heap.size]? = some (.cells #[.int .i64 0, .int .i64 0, .int .i64 0, .int .i64 0, .int .i64 0, .int .i64 0, .int .i64 0, .int .i64 0, .int .i64 0, .int .i64 0, .int .i64 0, .int .i64 0, .int .i64 0, .int .i64 0, .slice none 0 0] 30)) := (setRow_other _ _ _ _ (by omega)).trans R1.out
  have A2 : Hid ((V1.setRow W0.heap.size #[.int .i64 1, .int .i64 h, .int .i64 d, .int .i64 p, .int .i64 0, .int .i64 0, .int .i64 0, .int .i64 0, .int .i64 0, .int .i64 0, .int .i64 0, .int .i64 0, .int .i64 0, .int .i64 0, .slice none 0 0]).heap[W0.heap.size]? = some (.cells #[.int .i64 1, .int .i64 h, .int .i64 d, .int .i64 p, .int .i64 0, .int .i64 0, .int .i64 0, .int .i64 0, .int .i64 0, .int .i64 0, .int .i64 0, .int .i64 0, .int .i64 0, .int .i64 0, .slice none 0 0] 30)) := setRow_heap _ _ _ _ _ _ A1.out
  have K2 : Hid (Below w.heap.size w (V1.setRow W0.heap.size #[.int .i64 1, .int .i64 h, .int .i64 d, .int .i64 p, .int .i64 0, .int .i64 0, .int .i64 0, .int .i64 0, .int .i64 0, .int .i64 0, .int .i64 0, .int .i64 0, .int .i64 0, .int .i64 0, .slice none 0 0])) := below_setRow K1.out (by omega) _
  go_wp2_with (refine wpList_store_row rfl 30 _ _ rfl (W0.heap.size) #[.int .i64 1, .int .i64 h, .int .i64 d, .int .i64 p, .int .i64 0, .int .i64 0, .int .i64 0, .int .i64 0, .int .i64 0, .int .i64 0, .int .i64 0, .int .i64 0, .int .i64 0, .int .i64 0, .slice none 0 0] rfl rfl 30 _ A1.out (by kernel_rfl) rfl (by simp [Value.oneCell']) ?_)
  clear hW0 hV1 R1 A1 K1
  generalize V1.setRow W0.heap.size #[.int .i64 1, .int .i64 h, .int .i64 d, .int .i64 p, .int .i64 0, .int .i64 0, .int .i64 0, .int .i64 0, .int .i64 0, .int .i64 0, .int .i64 0, .int .i64 0, .int .i64 0, .int .i64 0, .slice none 0 0] = S2 at R2 A2 K2 ⊢
  refine (cFK.out _).mono ?_
  rintro e w3 ⟨rfl, hb⟩
  have R3 := Lib.hid (blk_on hb R2.out)
  have A3 := Lib.hid (blk_on hb A2.out)
  have K3 := Lib.hid (K2.out.trans (hb.mono K2.out.size))
  clear hb R2 A2 K2
  obtain ⟨⟨a0, a1, a2, a3, a4, a5, a6, a7, a8, a9, a10, a11, a12, a13, a14⟩, az0, az1, az2, az3, az4, az5, az6, az7, az8, az9, az10, az11, az12, az13, az14⟩ := blk15 A3.out
  obtain ⟨S4, qS4⟩ : ∃ W, setAll w3 W0.heap.size 9 [.int .i64 ku, .int .i64 ks, .int .i64 kh, .int .i64 ka, .int .i64 0] = W := ⟨_, rfl⟩
  have hS4 : (((((w3.setCell ⟨W0.heap.size, 9, none⟩ (.int .i64 ku)).setCell ⟨W0.heap.size, 10, none⟩ (.int .i64 ks)).setCell ⟨W0.heap.size, 11, none⟩ (.int .i64 kh)).setCell ⟨W0.heap.size, 12, none⟩ (.int .i64 ka)).setCell ⟨W0.heap.size, 13, none⟩ (.int .i64 0)) = S4 := qS4
  have R4 : Hid (S4.heap[w.heap.size]? = some (.cells #[.int .i64 0, .int .i64 0, .int .i64 0, .int .i64 0, .int .i64 0, .int .i64 0, .int .i64 0, .int .i64 0, .int .i64 0, .int .i64 0, .int .i64 0, .int .i64 0, .int .i64 0, .int .i64 0, .slice none 0 0] 30)) := by rw [← qS4]; exact setAll_away (by omega) _ _ R3.out
  have A4 : Hid (S4.heap[W0.heap.size]? = some (.cells #[.int .i64 1, .int .i64 h, .int .i64 d, .int .i64 p, .int .i64 0, .int .i64 0, .int .i64 0, .int .i64 0, .int .i64 0, .int .i64 ku, .int .i64 ks, .int .i64 kh, .int .i64 ka, .int .i64 0, .slice none 0 0] 30)) := by
    rw [← qS4]
    refine (setAll_blk (w := w3) (g := W0.heap.size) [.int .i64 ku, .int .i64 ks, .int .i64 kh, .int .i64 ka, .int .i64 0] 9 A3.out).trans ?_
    refine congrArg (fun z => some (Obj.cells z 30 (0, 0))) (Array.toList_inj.1 ?_)
    rw [overA_toList _ _ _ (by simp)]
    rfl
  have K4 : Hid (Below w.heap.size w S4) := by rw [← qS4]; exact setAll_below (g := W0.heap.size) (by omega) [.int .i64 ku, .int .i64 ks, .int .i64 kh, .int .i64 ka, .int .i64 0] 9 K3.out
  have zS4 : w3.heap.size = S4.heap.size := by rw [← qS4]; exact (setAll_size [.int .i64 ku, .int .i64 ks, .int .i64 kh, .int .i64 ka, .int .i64 0] 9 _).symm
  clear qS4 R3 A3 K3
  by_cases hp : p = 3
  ·
    have hp' : (p == 3) = true := beq_int hp
    have HA3 := Lib.hid (cA3.out hp)
    have HG3 := Lib.hid (G3.out hp)
    clear hp cA3 cA4 G3 G4
    go_wp2_with fail
    clear a0 a1 a2 a3 a4 a5 a6 a7 a8 a9 a10 a11 a12 a13 a14 az0 az1 az2 az3 az4 az5 az6 az7 az8 az9 az10 az11 az12 az13 az14
    clear hS4
    refine (cEK.out _).mono ?_
    rintro e w5 ⟨rfl, hb⟩
    have R5 := Lib.hid (blk_on hb R4.out)
    have A5 := Lib.hid (blk_on hb A4.out)
    have K5 := Lib.hid (K4.out.trans (hb.mono K4.out.size))
    clear hb R4 A4 K4
    obtain ⟨⟨b0, b1, b2, b3, b4, b5, b6, b7, b8, b9, b10, b11, b12, b13, b14⟩, bz0, bz1, bz2, bz3, bz4, bz5, bz6, bz7, bz8, bz9, bz10, bz11, bz12, bz13, bz14⟩ := blk15 A5.out
    obtain ⟨S6, qS6⟩ : ∃ W, setAll w5 W0.heap.size 4 [.int .i64 qu, .int .i64 qs, .int .i64 qh, .int .i64 qa, .int .i64 0] = W := ⟨_, rfl⟩
    have hS6 : (((((w5.setCell ⟨W0.heap.size, 4, none⟩ (.int .i64 qu)).setCell ⟨W0.heap.size, 5, none⟩ (.int .i64 qs)).setCell ⟨W0.heap.size, 6, none⟩ (.int .i64 qh)).setCell ⟨W0.heap.size, 7, none⟩ (.int .i64 qa)).setCell ⟨W0.heap.size, 8, none⟩ (.int .i64 0)) = S6 := qS6
    have R6 : Hid (S6.heap[w.heap.size]? = some (.cells #[.int .i64 0, .int .i64 0, .int .i64 0, .int .i64 0, .int .i64 0, .int .i64 0, .int .i64 0, .int .i64 0, .int .i64 0, .int .i64 0, .int .i64 0, .int .i64 0, .int .i64 0, .int .i64 0, .slice none 0 0] 30)) := by rw [← qS6]; exact setAll_away (by omega) _ _ R5.out
    have A6 : Hid (S6.heap[W0.heap.size]? = some (.cells #[.int .i64 1, .int .i64 h, .int .i64 d, .int .i64 p, .int .i64 qu, .int .i64 qs, .int .i64 qh, .int .i64 qa, .int .i64 0, .int .i64 ku, .int .i64 ks, .int .i64 kh, .int .i64 ka, .int .i64 0, .slice none 0 0] 30)) := by
      rw [← qS6]
      refine (setAll_blk (w := w5) (g := W0.heap.size) [.int .i64 qu, .int .i64 qs, .int .i64 qh, .int .i64 qa, .int .i64 0] 4 A5.out).trans ?_
      refine congrArg (fun z => some (Obj.cells z 30 (0, 0))) (Array.toList_inj.1 ?_)
      rw [overA_toList _ _ _ (by simp)]
      rfl
    have K6 : Hid (Below w.heap.size w S6) := by rw [← qS6]; exact setAll_below (g := W0.heap.size) (by omega) [.int .i64 qu, .int .i64 qs, .int .i64 qh, .int .i64 qa, .int .i64 0] 4 K5.out
    have zS6 : w5.heap.size = S6.heap.size := by rw [← qS6]; exact (setAll_size [.int .i64 qu, .int .i64 qs, .int .i64 qh, .int .i64 qa, .int .i64 0] 4 _).symm
    clear qS6 R5 A5 K5
    go_wp2_with fail
    clear b0 b1 b2 b3 b4 b5 b6 b7 b8 b9 b10 b11 b12 b13 b14 bz0 bz1 bz2 bz3 bz4 bz5 bz6 bz7 bz8 bz9 bz10 bz11 bz12 bz13 bz14
    clear hS6
    refine (cG.out _).mono ?_
    rintro e w7 ⟨rfl, hb⟩
    have R7 := Lib.hid (blk_on hb R6.out)
    have A7 := Lib.hid (blk_on hb A6.out)
    have K7 := Lib.hid (K6.out.trans (hb.mono K6.out.size))
    clear hb R6 A6 K6
    cases zg with
    | false =>
      have HE := Lib.hid (G0.out rfl)
      go_wp2_with (refine wpList_store_row rfl 30 _ _ rfl (w.heap.size) #[.int .i64 0, .int .i64 0, .int .i64 0, .int .i64 0, .int .i64 0, .int .i64 0, .int .i64 0, .int .i64 0, .int .i64 0, .int .i64 0, .int .i64 0, .int .i64 0, .int .i64 0, .int .i64 0, .slice none 0 0] rfl rfl 30 _ R7.out (by kernel_rfl) rfl (by simp [Value.oneCell']) ?_)
      exact row_ret2 (r := w.heap.size) (cs := #[.int .i64 0, .int .i64 0, .int .i64 0, .int .i64 0, .int .i64 0, .int .i64 0, .int .i64 0, .int .i64 0, .int .i64 0, .int .i64 0, .int .i64 0, .int .i64 0, .int .i64 0, .int .i64 0, .slice none 0 0]) rfl rfl rfl (setRow_heap _ _ _ _ _ _ R7.out) Tryz.underlying30 rfl (by kernel_rfl) rfl ⟨by rw [HE.out.1, HE.out.2]; rfl, below_setRow K7.out (by omega) _⟩
    | true =>
      go_wp2_with (refine wpList_load_wanted rfl 30 _ rfl (W0.heap.size) rfl 30 _ (0, 0) _ A7.out Tryz.underlying30 rfl (by kernel_rfl) ?_)
      refine (HA3.out _).mono ?_
      rintro e w8 ⟨rfl, hb⟩
      have R8 := Lib.hid (blk_on hb R7.out)
      have A8 := Lib.hid (blk_on hb A7.out)
      have K8 := Lib.hid (K7.out.trans (hb.mono K7.out.size))
      clear hb R7 A7 K7
      cases zs with
      | false =>
        have HE := Lib.hid (G1.out (by trivial) rfl)
        go_wp2_with (refine wpList_store_row rfl 30 _ _ rfl (w.heap.size) #[.int .i64 0, .int .i64 0, .int .i64 0, .int .i64 0, .int .i64 0, .int .i64 0, .int .i64 0, .int .i64 0, .int .i64 0, .int .i64 0, .int .i64 0, .int .i64 0, .int .i64 0, .int .i64 0, .slice none 0 0] rfl rfl 30 _ R8.out (by kernel_rfl) rfl (by simp [Value.oneCell']) ?_)
        exact row_ret2 (r := w.heap.size) (cs := #[.int .i64 0, .int .i64 0, .int .i64 0, .int .i64 0, .int .i64 0, .int .i64 0, .int .i64 0, .int .i64 0, .int .i64 0, .int .i64 0, .int .i64 0, .int .i64 0, .int .i64 0, .int .i64 0, .slice none 0 0]) rfl rfl rfl (setRow_heap _ _ _ _ _ _ R8.out) Tryz.underlying30 rfl (by kernel_rfl) rfl ⟨by rw [HE.out.1, HE.out.2]; rfl, below_setRow K8.out (by omega) _⟩
      | true =>
        have HE := Lib.hid (HG3.out (by trivial) rfl)
        go_wp2_with (first | (refine wpList_load_row rfl 30 _ rfl (W0.heap.size) rfl 30 _ (0, 0) _ A8.out Tryz.underlying30 rfl (by kernel_rfl) ?_) | (refine wpList_store_row rfl 30 _ _ rfl (w.heap.size) #[.int .i64 1, .int .i64 h, .int .i64 d, .int .i64 p, .int .i64 qu, .int .i64 qs, .int .i64 qh, .int .i64 qa, .int .i64 0, .int .i64 ku, .int .i64 ks, .int .i64 kh, .int .i64 ka, .int .i64 0, .slice none 0 0] rfl rfl 30 _ R8.out (by kernel_rfl) rfl (by simp [Value.oneCell']) ?_))
        exact row_ret2 (r := w.heap.size) (cs := #[.int .i64 1, .int .i64 h, .int .i64 d, .int .i64 p, .int .i64 qu, .int .i64 qs, .int .i64 qh, .int .i64 qa, .int .i64 0, .int .i64 ku, .int .i64 ks, .int .i64 kh, .int .i64 ka, .int .i64 0, .slice none 0 0]) rfl rfl rfl (setRow_heap _ _ _ _ _ _ R8.out) Tryz.underlying30 rfl (by kernel_rfl) rfl ⟨by rw [HE.out.1, HE.out.2]; rfl, below_setRow K8.out (by omega) _⟩
  ·
    have hp' : (p == 3) = false := bne_int hp
    have HA3 := Lib.hid (cA4.out hp)
    have HG3 := Lib.hid (G4.out hp)
    clear hp cA3 cA4 G3 G4
    go_wp2_with fail
    clear a0 a1 a2 a3 a4 a5 a6 a7 a8 a9 a10 a11 a12 a13 a14 az0 az1 az2 az3 az4 az5 az6 az7 az8 az9 az10 az11 az12 az13 az14
    clear hS4
    refine (cG.out _).mono ?_
    rintro e w5 ⟨rfl, hb⟩
    have R5 := Lib.hid (blk_on hb R4.out)
    have A5 := Lib.hid (blk_on hb A4.out)
    have K5 := Lib.hid (K4.out.trans (hb.mono K4.out.size))
    clear hb R4 A4 K4
    cases zg with
    | false =>
      have HE := Lib.hid (G0.out rfl)
      go_wp2_with (refine wpList_store_row rfl 30 _ _ rfl (w.heap.size) #[.int .i64 0, .int .i64 0, .int .i64 0, .int .i64 0, .int .i64 0, .int .i64 0, .int .i64 0, .int .i64 0, .int .i64 0, .int .i64 0, .int .i64 0, .int .i64 0, .int .i64 0, .int .i64 0, .slice none 0 0] rfl rfl 30 _ R5.out (by kernel_rfl) rfl (by simp [Value.oneCell']) ?_)
      exact row_ret2 (r := w.heap.size) (cs := #[.int .i64 0, .int .i64 0, .int .i64 0, .int .i64 0, .int .i64 0, .int .i64 0, .int .i64 0, .int .i64 0, .int .i64 0, .int .i64 0, .int .i64 0, .int .i64 0, .int .i64 0, .int .i64 0, .slice none 0 0]) rfl rfl rfl (setRow_heap _ _ _ _ _ _ R5.out) Tryz.underlying30 rfl (by kernel_rfl) rfl ⟨by rw [HE.out.1, HE.out.2]; rfl, below_setRow K5.out (by omega) _⟩
    | true =>
      go_wp2_with (refine wpList_load_wanted rfl 30 _ rfl (W0.heap.size) rfl 30 _ (0, 0) _ A5.out Tryz.underlying30 rfl (by kernel_rfl) ?_)
      refine (HA3.out _).mono ?_
      rintro e w6 ⟨rfl, hb⟩
      have R6 := Lib.hid (blk_on hb R5.out)
      have A6 := Lib.hid (blk_on hb A5.out)
      have K6 := Lib.hid (K5.out.trans (hb.mono K5.out.size))
      clear hb R5 A5 K5
      cases zs with
      | false =>
        have HE := Lib.hid (G1.out (by trivial) rfl)
        go_wp2_with (refine wpList_store_row rfl 30 _ _ rfl (w.heap.size) #[.int .i64 0, .int .i64 0, .int .i64 0, .int .i64 0, .int .i64 0, .int .i64 0, .int .i64 0, .int .i64 0, .int .i64 0, .int .i64 0, .int .i64 0, .int .i64 0, .int .i64 0, .int .i64 0, .slice none 0 0] rfl rfl 30 _ R6.out (by kernel_rfl) rfl (by simp [Value.oneCell']) ?_)
        exact row_ret2 (r := w.heap.size) (cs := #[.int .i64 0, .int .i64 0, .int .i64 0, .int .i64 0, .int .i64 0, .int .i64 0, .int .i64 0, .int .i64 0, .int .i64 0, .int .i64 0, .int .i64 0, .int .i64 0, .int .i64 0, .int .i64 0, .slice none 0 0]) rfl rfl rfl (setRow_heap _ _ _ _ _ _ R6.out) Tryz.underlying30 rfl (by kernel_rfl) rfl ⟨by rw [HE.out.1, HE.out.2]; rfl, below_setRow K6.out (by omega) _⟩
      | true =>
        have HE := Lib.hid (HG3.out (by trivial) rfl)
        go_wp2_with (first | (refine wpList_load_row rfl 30 _ rfl (W0.heap.size) rfl 30 _ (0, 0) _ A6.out Tryz.underlying30 rfl (by kernel_rfl) ?_) | (refine wpList_store_row rfl 30 _ _ rfl (w.heap.size) #[.int .i64 1, .int .i64 h, .int .i64 d, .int .i64 p, .int .i64 0, .int .i64 0, .int .i64 0, .int .i64 0, .int .i64 0, .int .i64 ku, .int .i64 ks, .int .i64 kh, .int .i64 ka, .int .i64 0, .slice none 0 0] rfl rfl 30 _ R6.out (by kernel_rfl) rfl (by simp [Value.oneCell']) ?_))
        exact row_ret2 (r := w.heap.size) (cs := #[.int .i64 1, .int .i64 h, .int .i64 d, .int .i64 p, .int .i64 0, .int .i64 0, .int .i64 0, .int .i64 0, .int .i64 0, .int .i64 ku, .int .i64 ks, .int .i64 kh, .int .i64 ka, .int .i64 0, .slice none 0 0]) rfl rfl rfl (setRow_heap _ _ _ _ _ _ R6.out) Tryz.underlying30 rfl (by kernel_rfl) rfl ⟨by rw [HE.out.1, HE.out.2]; rfl, below_setRow K6.out (by omega) _⟩

end Go.Proofs.YtchdmmlkgglmcaaGreatDoor.Tx
namespace Go.Proofs.YtchdmmlkgglmcaaGreatDoor.Tx
open Go.RowKit

/-- The block of an address. -/
def blkA : Option Addr → Option Nat
  | some a => some a.block
  | none => none
section
variable {α : Type} [Cells α] {w w' : World} {base n cap : Nat} {T : TypeId} {A : Option Addr} {l : List α}
def OutE (w : World) (base : Nat) (T : TypeId) (A : Option Addr) (n cap : Nat) (l : List α) : Prop :=
  (A = none ∧ n = 0 ∧ cap = 0 ∧ l = []) ∨ ∃ g, A = some ⟨g, 0, none⟩ ∧ n = l.length ∧ MadeE w base T l g cap
theorem OutE.len (h : OutE w base T A n cap l) : l.length = n := by
  rcases h with ⟨_, rfl, _, rfl⟩ | ⟨g, _, e, _⟩
  · rfl
  · exact e.symm
theorem OutE.lt (h : OutE w base T A n cap l) {k : Nat} (e : blkA A = some k) : base ≤ k ∧ k < w.heap.size := by
  rcases h with ⟨rfl, _⟩ | ⟨g, rfl, _, m⟩
  · cases e
  · obtain rfl := Option.some.inj e
    exact m.base
theorem OutE.heap (h : OutE w base T A n cap l) (he : ∀ k, blkA A = some k → w'.heap[k]? = w.heap[k]?) : OutE w' base T A n cap l := by
  rcases h with h | ⟨g, rfl, e, m⟩
  · exact .inl h
  · exact .inr ⟨g, rfl, e, MadeG.heap m (he g rfl)⟩
theorem OutE.on (h : OutE w base T A n cap l) (b : Below w.heap.size w w') : OutE w' base T A n cap l := h.heap fun k e => b.block k (h.lt e).2
theorem OutE.kept {row : Option Nat} (h : OutE w base T A n cap l) (gr : w.grownBy w' row) (hne : ∀ k, blkA A = some k → row ≠ some k) : OutE w' base T A n cap l := h.heap fun k e => gr.block k (h.lt e).2 (fun e2 => hne k e e2.symm)
theorem OutE.mono {base' : Nat} (h : OutE w base T A n cap l) (hb : base' ≤ base) : OutE w base' T A n cap l := by
  rcases h with h | ⟨g, rfl, e, m⟩
  · exact .inl h
  · exact .inr ⟨g, rfl, e, MadeG.mono m hb⟩
theorem OutE.elts (h : OutE w base T A n cap l) : EltsO w w.heap.size A n l := by
  rcases h with ⟨rfl, rfl, _, rfl⟩ | ⟨g, rfl, rfl, m⟩
  · exact ⟨rfl, fun h => absurd h (by omega)⟩
  · exact MadeG.elts m
end
theorem grown_nil {w w' : World} (b : Below w.heap.size w w') : w.grownBy w' none := ⟨b.os, b.tape, b.output, b.size, fun i hi _ => b.block i hi⟩

end Go.Proofs.YtchdmmlkgglmcaaGreatDoor.Tx
namespace Go.Proofs.YtchdmmlkgglmcaaGreatDoor.Tx
open Go.RowKit

section
variable {α : Type} [Cells α] {w w' : World} {base n cap : Nat} {T : TypeId} {A : Option Addr} {l : List α}
theorem OutE.form (h : OutE w base T A n cap l) : (A = none ∧ n = 0) ∨ ∃ g, A = some ⟨g, 0, none⟩ ∧ g < w.heap.size ∧ There w g 0 (n * Cells.sz α) := by
  rcases h with ⟨rfl, rfl, _⟩ | ⟨g, rfl, rfl, m⟩
  · exact .inl ⟨rfl, rfl⟩
  · exact .inr ⟨g, rfl, m.base.2, made_there m⟩
/-- What is written into such a list. -/
def FillO (w : World) (A : Option Addr) (n m : Nat) (f : Nat → Value) : Prop := (A = none ∧ n = 0) ∨ ∃ g, A = some ⟨g, 0, none⟩ ∧ g < w.heap.size ∧ Filled w g f m
theorem FillO.heap {n m : Nat} {f : Nat → Value} (h : FillO w A n m f) (hs : w.heap.size ≤ w'.heap.size) (he : ∀ k, blkA A = some k → w'.heap[k]? = w.heap[k]?) : FillO w' A n m f := by
  rcases h with h | ⟨g, rfl, hg, hf⟩
  · exact .inl h
  · exact .inr ⟨g, rfl, by omega, fun t ht => (World.cell?_of_block (w := w) (a := ⟨g, t, none⟩) (he g rfl)).trans (hf t ht)⟩
theorem FillO.lt {n m : Nat} {f : Nat → Value} (h : FillO w A n m f) {k : Nat} (e : blkA A = some k) : k < w.heap.size := by
  rcases h with ⟨rfl, _⟩ | ⟨g, rfl, hg, _⟩
  · cases e
  · obtain rfl := Option.some.inj e
    exact hg
theorem FillO.on {n m : Nat} {f : Nat → Value} (h : FillO w A n m f) (b : Below w.heap.size w w') : FillO w' A n m f := h.heap b.size fun k e => b.block k (h.lt e)
end

end Go.Proofs.YtchdmmlkgglmcaaGreatDoor.Tx
namespace Go.Proofs.YtchdmmlkgglmcaaGreatDoor.Tx
open Go.RowKit

theorem LogOut.out {w : World} {base : Nat} {A : Option Addr} {n cap : Nat} {l : List WordV} (h : LogOut w base A n cap l) : OutE w base 49 A n cap l := h
theorem hearL_small (N : Nat) (s : SeatV) (l : List WordV) (b : BoxV) (hl : l.length ≤ N) (hN : 60 ≤ N) : (hearL s l b).length ≤ N := by
  have h1 : hearC s l.length b = 1 → l.length < 60 := fun h => by
    rw [hearC] at h
    repeat' split at h
    all_goals omega
  have h3 : hearC s l.length b = 3 → l.length < 60 := fun h => by
    rw [hearC] at h
    repeat' split at h
    all_goals first | omega | (rename_i h2; rw [Bool.and_eq_true, decide_eq_true_iff] at h2; exact h2.2)
  rw [hearL]
  split
  · split
    · rename_i h
      have := h1 h
      simp; omega
    · split
      · rename_i h
        have := h3 h
        simp; omega
      · exact hl
  · simp
theorem hearL_length (s : SeatV) (l : List WordV) (b : BoxV) (hl : l.length ≤ 1048576) : (hearL s l b).length ≤ 1048576 := hearL_small 1048576 s l b hl (by omega)
end Go.Proofs.YtchdmmlkgglmcaaGreatDoor.Tx
namespace Go.Proofs.YtchdmmlkgglmcaaGreatDoor.Tx
open Go.RowKit



/-- A list of strings that the call made: its value, its block, what it holds. -/
structure Made (w : World) (base : Nat) (ss : List ByteArray) (gb cb : Nat) : Prop where
  own : w.ownsRow base 9 1 (.slice (some ⟨gb, 0, none⟩) ss.length cb) ss.length (ss.map Value.string)
  small : ∀ s ∈ ss, s.size ≤ 13
theorem Made.base {w : World} {base : Nat} {ss : List ByteArray} {gb cb : Nat} (h : Made w base ss gb cb) : base ≤ gb ∧ gb < w.heap.size := h.own.lt gb rfl
theorem Made.kept {w w' : World} {base : Nat} {ss : List ByteArray} {gb cb : Nat} {row : Option Nat} (h : Made w base ss gb cb) (hg : w.grownBy w' row) (hne : some gb ≠ row) : Made w' base ss gb cb := ⟨h.own.kept hg (.inr hne), h.small⟩
theorem Made.alloc {w : World} {base : Nat} {ss : List ByteArray} {gb cb : Nat} (h : Made w base ss gb cb) (o : Obj) : Made (w.alloc o) base ss gb cb := ⟨h.own.alloc o, h.small⟩
theorem Made.cap {w : World} {base : Nat} {ss : List ByteArray} {gb cb : Nat} (h : Made w base ss gb cb) : ss.length ≤ cb ∧ cb ≤ maxLen := by
  rcases h.own.2 with ⟨e, _⟩ | ⟨g, cap, cur, e, _, _, h1, h2, _⟩
  · cases e
  · cases e; exact ⟨h1, h2⟩
theorem Made.strs {w : World} {base : Nat} {ss : List ByteArray} {gb cb : Nat} (h : Made w base ss gb cb) : Strs w w.heap.size (some ⟨gb, 0, none⟩) ss.length ss :=
  ⟨rfl, fun _ => ⟨gb, 0, rfl, h.base.2, fun j hj => by
    rw [Nat.zero_add, h.own.cellAt j (by omega), List.getElem?_map, List.getElem?_eq_getElem hj]
    rfl⟩⟩
theorem sumB_small (ss : List ByteArray) (h : ∀ s ∈ ss, s.size ≤ 13) : sumB ss ≤ 13 * ss.length := by
  induction ss with
  | nil => simp [sumB]
  | cons s r ih =>
    have h1 := h s (by simp)
    have h2 := ih (fun t ht => h t (by simp [ht]))
    have e : sumB (s :: r) = s.size + sumB r := by simp [sumB]
    rw [e, List.length_cons]
    omega
theorem Made.snoc {w : World} {base : Nat} {ss : List ByteArray} {s : ByteArray} {v : Value} (h : w.ownsRow base 9 1 v (ss.length + 1) (ss.map Value.string ++ [.string s])) (hs : ∀ t ∈ ss, t.size ≤ 13) (h1 : s.size ≤ 13) :
    ∃ gb cb, v = .slice (some ⟨gb, 0, none⟩) (ss.length + 1) cb ∧ Made w base (ss ++ [s]) gb cb := by
  obtain ⟨gb, cb, rfl, _, _⟩ := h.form (by omega)
  refine ⟨gb, cb, rfl, ?_, ?_⟩
  · rw [List.length_append, List.map_append]
    exact h
  · intro t ht
    rcases List.mem_append.1 ht with ht | ht
    · exact hs t ht
    · simp at ht; subst ht; exact h1
/-- What a draw of a list leaves. -/
def ListOut (m : Nat) (w : World) (g : Nat) (A : Option Addr) (n cap : Nat) (e : Ending) (w' : World) : Prop :=
  ∃ (ss : List ByteArray) (gb cb : Nat) (i h : Int), ss.length ≤ m ∧ e = .returned (.slice (some ⟨gb, 0, none⟩) ss.length cb) ∧ Made w' w.heap.size ss gb cb ∧ Cur w' g A n cap i h ∧ w.grownBy w' (some g)

/-- What holds at the head of l1DrawList's loop. -/
def DL (w : World) (g : Nat) (A : Option Addr) (n cap : Nat) (k : Nat) (v : Value) (wr : World) : Prop :=
  ∃ (ss : List ByteArray) (gb cb : Nat) (i h : Int), ss.length + k ≤ 5 ∧ v = .slice (some ⟨gb, 0, none⟩) ss.length cb ∧ Made wr w.heap.size ss gb cb ∧ Cur wr g A n cap i h ∧ w.grownBy wr (some g)

set_option maxHeartbeats 1000000 in
theorem l1DrawList_any (w : World) (g : Nat) (A : Option Addr) (n cap : Nat) (i h : Int) (hn : n ≤ 4096) (c : Cur w g A n cap i h) :
    Calls Tryz.prog 66 #[.pointer (some ⟨g, 0, none⟩)] w (ListOut 5 w g A n cap) := by
  obtain ⟨i0, hi, hz0, hz1, hz2⟩ := info_parts infoString
  have C := Lib.hid c
  have hg := c.lt
  clear c
  go_enter Tryz.func66, Tryz.ntmps66
  go_wp2_with fail
  refine (l1Below_any _ g A n cap i h 6 hn (by omega) (by omega) (C.out.alloc _)).mono ?_
  rintro e w1 ⟨x, i1, g1, ⟨hx0, hx1⟩, rfl, c1, b1⟩
  obtain ⟨k0, rfl⟩ := Int.eq_ofNat_of_zero_le hx0
  have M1 : Hid (DL w g A n cap k0 (.slice (some ⟨w.heap.size, 0, none⟩) 0 0) w1) := by
    have hm : Made (w.alloc (.cells #[] 9)) w.heap.size [] w.heap.size 0 := ⟨World.ownsRow_made w #[] 0 (Nat.le_refl _) (Nat.zero_le _) rfl, by simp⟩
    exact ⟨[], w.heap.size, 0, i1, g1, by simp; omega, rfl, hm.kept b1 (by intro e; injection e with e; omega), c1, only_trans (World.grownBy_alloc w _ (some g)) b1⟩
  clear c1 b1
  go_wp2
  go_loopw [3, 4] (fun v nn wr => ∃ k : Nat, nn = .int .i64 k ∧ k ≤ 5 ∧ DL w g A n cap k v wr) (fun _ nn _ => (intOf nn).toNat)
  case atStart => exact ⟨k0, rfl, by omega, M1.out⟩
  case round =>
    obtain ⟨k, rfl, hk5, ss, gb, cb, i2, h2, hlen, rfl, hM, hC, hG⟩ := hrel
    have HM := Lib.hid hM
    have HC := Lib.hid hC
    have HG := Lib.hid hG
    have hbase := hM.base
    obtain ⟨hb1, hb2⟩ := hbase
    clear hM hC hG
    by_cases hk : 0 < k
    · go_wp2_with fail
      refine (l1DrawText_any _ g A n cap i2 h2 hn HC.out).mono ?_
      rintro e w2 ⟨s, i3, h3, hsz, rfl, c3, b3⟩
      have HM3 := Lib.hid (HM.out.kept b3 (by intro e; injection e with e; omega))
      have HC3 := Lib.hid c3
      have HG3 := Lib.hid (only_trans HG.out b3)
      have hs3 := HG3.out.size
      clear c3 b3
      go_wp2_with (at_builtin; refine wpList_append_own _ rfl _ _ 45 rfl w.heap.size 9 i0 (.string ByteArray.empty) 1 16 Tryz.underlying45 hi hz0 hz1 hz2 rfl (by decide) _ _ _ rfl (HM3.out.own.alloc _) ⟨w2.heap.size, 0, none⟩ 1 1 [.string s] rfl rfl (cell_one_new _ _ _) (by simp [Value.oneCell']) (by unfold maxLen; omega) (by omega) (by simp; omega) ?_; intro v' w3 hown' hgrow _; obtain ⟨gb', cb', rfl, hM'⟩ := Made.snoc hown' HM3.out.small (by omega); have HM' := Lib.hid hM'; have HGR := Lib.hid hgrow; clear hown' hgrow hM')
      go_roundw
      case rel =>
        refine ⟨k - 1, by go_num, by omega, ss ++ [s], gb', cb', i3, h3, by simp; omega, by simp, HM'.out, ?_, ?_⟩
        · exact (HC3.out.alloc _).far (gb := gb) HGR.out (by omega)
        · exact only_own (only_alloc HG3.out _) HGR.out hb1
      case measure => simp [intOf]; omega
    · go_wp2
      go_ret
      exact ⟨ss, gb, cb, i2, h2, by omega, rfl, HM.out, HC.out, HG.out⟩

theorem Made.mono {w : World} {base base' : Nat} {ss : List ByteArray} {gb cb : Nat} (h : Made w base ss gb cb) (hb : base' ≤ base) : Made w base' ss gb cb := by
  refine ⟨⟨h.own.1, ?_⟩, h.small⟩
  rcases h.own.2 with h2 | ⟨g, cap, cur, hv, hg, r⟩
  · exact .inl h2
  · exact .inr ⟨g, cap, cur, hv, Nat.le_trans hb hg, r⟩



end Go.Proofs.YtchdmmlkgglmcaaGreatDoor.Tx
namespace Go.Proofs.YtchdmmlkgglmcaaGreatDoor.Tx
open Go Go.RowKit

/-- The cursor lies in block g, and nothing else that lay is turned but the blocks L. -/
def curEnv (W : World) (L : List Nat) (g : Nat) (A : Option Addr) (n cap : Nat) (hL : g ∉ L) (hc : ∃ i h, Cur W g A n cap i h) {B : Nat} (hB : BytesAt W B A n) (hBg : B ≤ g) (hLB : ∀ k ∈ L, B ≤ k) : Env where
  C w := KeptBut (g :: L) W w ∧ ∃ i h, Cur w g A n cap i h
  T w w' := w.grownBy w' (some g) ∧ ∃ i h, Cur w' g A n cap i h
  mine k := W.heap.size ≤ k ∨ k ∈ L
  go {w w'} h b := ⟨⟨b.1.os.trans h.1.os, b.1.tape.trans h.1.tape, b.1.output.trans h.1.output, Nat.le_trans h.1.size b.1.size, fun k hk hn => (b.1.block k (Nat.lt_of_lt_of_le hk h.1.size) (fun e => hn (by rw [Option.some.inj e]; exact List.mem_cons_self))).trans (h.1.block k hk hn)⟩, b.2⟩
  new o h := ⟨World.grownBy_alloc _ o _, let ⟨i, h', c⟩ := h.2; ⟨i, h', c.alloc o⟩⟩
  size b := b.1.size
  blk {w w' k o} _ b hg h := (b.1.block k (Array.getElem?_eq_some_iff.1 h).1 (by
    intro e
    have e1 := Option.some.inj e
    obtain ⟨i, h', c⟩ := hc
    have := c.lt
    rcases hg with hg | hg
    · omega
    · exact hL (e1 ▸ hg))).trans h
  lim := W.heap.size
  lo h := h.1.size
  own h := .inl h
  free {w w'} h h1 h2 h3 h4 h5 := by
    obtain ⟨hk, i2, h2', c2⟩ := h
    have hkb : KeptBut (g :: L) W w' := ⟨h1.trans hk.os, h2.trans hk.tape, h3.trans hk.output, Nat.le_trans hk.size h4, fun k hlt hn => (h5 k (fun hm => hm.elim (fun h => by omega) (fun h => hn (List.mem_cons_of_mem _ h)))).trans (hk.block k hlt hn)⟩
    refine ⟨hkb, i2, h2', ?_⟩
    have hgm : w'.heap[g]? = w.heap[g]? := h5 g (fun hm => hm.elim (fun h => by obtain ⟨_, _, c⟩ := hc; have := c.lt; omega) hL)
    refine ⟨hgm.trans c2.blk, c2.lo, c2.hi, fun hn => ?_⟩
    obtain ⟨b, off, e, hlt, hcell⟩ := hB hn
    refine ⟨b, off, e, by omega, fun j hj => ?_⟩
    obtain ⟨x, h0, h1, hx⟩ := hcell j hj
    refine ⟨x, h0, h1, ?_⟩
    have hbl : b < W.heap.size := World.block_lt_of_cell? W ⟨b, off + j, none⟩ hx
    have hne : b ∉ g :: L := fun hm => by
      rcases List.mem_cons.1 hm with h | h
      · omega
      · have := hLB b h; omega
    exact (World.cell?_of_block (w := W) (hkb.block b hbl hne)).trans hx
  some := ⟨W, KeptBut.refl _ W, hc⟩
theorem KeptBut.only {g : Nat} {W w : World} (h : KeptBut [g] W w) : W.grownBy w (some g) := ⟨h.os, h.tape, h.output, h.size, fun k hk hn => h.block k hk (fun hm => hn (by rw [List.mem_singleton.1 hm]))⟩
theorem Cur.drew {w : World} {g : Nat} {A : Option Addr} {n cap : Nat} {i h : Int} (c : Cur w g A n cap i h) : Cur { w with drawn := w.drawn + 1 } g A n cap i h := c.drewN 1
section
variable {W : World} {L : List Nat} {g : Nat} {A : Option Addr} {n cap : Nat} {hL : g ∉ L} {hc : ∃ i h, Cur W g A n cap i h} {B : Nat} {hB : BytesAt W B A n} {hBg : B ≤ g} {hLB : ∀ k ∈ L, B ≤ k}
theorem In.blkc (q : In (curEnv W L g A n cap hL hc hB hBg hLB)) {b : Nat} {o : Obj} (h : W.heap[b]? = some o) (hn : b ∉ g :: L) : q.w.heap[b]? = some o := q.hc.1.blk h hn
/-- A draw's own contract, as the walk wants it. -/
theorem cur_calls {P : Program} {f : FuncId} {args : Array Value} {w : World} {v : Value → Prop} (h : ∀ i h, Cur w g A n cap i h → Calls P f args w fun e w' => ∃ x i' h', v x ∧ e = .returned x ∧ Cur w' g A n cap i' h' ∧ w.grownBy w' (some g)) (hw : (curEnv W L g A n cap hL hc hB hBg hLB).C w) :
    Calls P f args w fun e w' => ∃ x : { x : Value // v x }, e = .returned x.1 ∧ True ∧ (curEnv W L g A n cap hL hc hB hBg hLB).T w w' ∧ ∀ k ∈ ([] : List Nat), w.heap.size ≤ k ∧ k < w'.heap.size := by
  obtain ⟨_, i, h', c⟩ := hw
  exact (h i h' c).mono fun e w' ⟨x, i1, h1, hv, he, c1, b1⟩ => ⟨⟨x, hv⟩, he, trivial, ⟨b1, i1, h1, c1⟩, fun k hk => by cases hk⟩
end
/-- One walk in the text's order serves every order, in a draw. -/
theorem wp_region_cur {P : Program} {W : World} (L : List Nat) {g : Nat} {A : Option Addr} {n cap : Nat} {i h : Int} (hL : g ∉ L) (c : Cur W g A n cap i h) {B : Nat} (hB : BytesAt W B A n) (hBg : B ≤ g) (hLB : ∀ k ∈ L, B ≤ k) {id : Nat} {Q' : Exit → Act → World → Prop} {a : Act} {l : List Oper}
    (F0 : World → Prop) (hS : Stays (curEnv W L g A n cap hL ⟨i, h, c⟩ hB hBg hLB) F0) (hF : F0 { W with drawn := W.drawn + 1 }) (kl : List Nat) (hm : P.follows .mixedOrders = true) (hs : Region.noSelect l.toArray = true)
    (hX : lexO .any l.toArray kl.toArray l.length 0 (Array.replicate l.length false) = true)
    (hh : wpO P l.toArray (curEnv W L g A n cap hL ⟨i, h, c⟩ hB hBg hLB) (fun a' w' => Q' .normal a' w') kl l [] F0 a) : (Code.region id l.toArray true).wp P Q' a W :=
  wp_region_env (E := curEnv W L g A n cap hL ⟨i, h, c⟩ hB hBg hLB) F0 hS kl ⟨(KeptBut.refl _ W).drew, i, h, c.drew⟩ hF hm hs hX hh

/-- One walk in an order of one's own serves every order, in a draw. -/
theorem wp_region_curp {P : Program} {W : World} (L : List Nat) {g : Nat} {A : Option Addr} {n cap : Nat} {i h : Int} (hL : g ∉ L) (c : Cur W g A n cap i h) {B : Nat} (hB : BytesAt W B A n) (hBg : B ≤ g) (hLB : ∀ k ∈ L, B ≤ k) {id : Nat} {Q' : Exit → Act → World → Prop} {a : Act} {l : List Oper}
    (F0 : World → Prop) (hS : Stays (curEnv W L g A n cap hL ⟨i, h, c⟩ hB hBg hLB) F0) (hF : F0 { W with drawn := W.drawn + 1 }) (kl ord : List Nat) (hm : P.follows .mixedOrders = true) (hs : Region.noSelect l.toArray = true)
    (hX : (ord.length == l.length && (ord.all (· < l.length) && permO .any l.toArray kl.toArray ord (Array.replicate l.length false))) = true)
    (hh : wpO P l.toArray (curEnv W L g A n cap hL ⟨i, h, c⟩ hB hBg hLB) (fun a' w' => Q' .normal a' w') (ord.map fun k => kl.getD k 0) (ord.filterMap fun k => l[k]?) [] F0 a) : (Code.region id l.toArray true).wp P Q' a W :=
  wp_region_envp (E := curEnv W L g A n cap hL ⟨i, h, c⟩ hB hBg hLB) F0 hS kl ord ⟨(KeptBut.refl _ W).drew, i, h, c.drew⟩ hF hm hs hX hh

end Go.Proofs.YtchdmmlkgglmcaaGreatDoor.Tx
namespace Go.Proofs.YtchdmmlkgglmcaaGreatDoor.Tx
open Go.RowKit

/-- What a draw of a row leaves. -/
def RowOut (w : World) (g : Nat) (A : Option Addr) (n cap : Nat) (e : Ending) (w' : World) : Prop :=
  ∃ (r : RowV) (i h : Int), e = .returned r.val ∧ Cur w' g A n cap i h ∧ w.grownBy w' (some g)

set_option maxHeartbeats 4000000 in
theorem l5Draw_any (w : World) (g : Nat) (A : Option Addr) (n cap : Nat) (i h : Int) (hn : n ≤ 4096) (c : Cur w g A n cap i h) :
    Calls Tryz.prog 50 #[.pointer (some ⟨g, 0, none⟩)] w (RowOut w g A n cap) := by
  have hg := c.lt
  have C := Lib.hid c
  clear c
  have G := Lib.hid (only_refl w g)
  obtain ⟨W0, hW0⟩ : ∃ W, w.alloc (.cells #[.int .i64 0, .int .i64 0, .int .i64 0, .int .i64 0, .int .i64 0] 27) = W := ⟨_, rfl⟩
  replace G := Lib.hid (only_alloc G.out (.cells #[.int .i64 0, .int .i64 0, .int .i64 0, .int .i64 0, .int .i64 0] 27))
  replace C := Lib.hid (C.out.alloc (.cells #[.int .i64 0, .int .i64 0, .int .i64 0, .int .i64 0, .int .i64 0] 27))
  have R := Lib.hid (heap1 w (.cells #[.int .i64 0, .int .i64 0, .int .i64 0, .int .i64 0, .int .i64 0] 27))
  rw [hW0] at G C R
  have sW0 : w.heap.size < W0.heap.size := by rw [← hW0]; simp
  go_enter Tryz.func50, Tryz.ntmps50
  go_wp2_with fail
  clear hW0
  refine (l3Draw_any _ g A n cap i h hn C.out).mono ?_
  rintro e w1 ⟨⟨ku, ks, kh, ka⟩, i1, h1, rfl, c, b⟩
  replace G := Lib.hid (only_trans G.out b)
  replace C := Lib.hid c
  replace R := Lib.hid (blk_kept b R.out (by omega))
  have sw1 := b.size
  clear b c
  unfold KeyV.val
  go_wp2_with fail
  refine (l1Below_any _ g A n cap i1 h1 3 hn (by omega) (by omega) C.out).mono ?_
  rintro e w2 ⟨y, i2, h2, ⟨_, _⟩, rfl, c, b⟩
  replace G := Lib.hid (only_trans G.out b)
  replace C := Lib.hid c
  replace R := Lib.hid (blk_kept b R.out (by omega))
  have sw2 := b.size
  clear b c
  obtain ⟨W3, hW3⟩ : ∃ W, w2.alloc (.cells #[.int .i64 ku, .int .i64 ks, .int .i64 kh, .int .i64 ka, .int .i64 y] 27) = W := ⟨_, rfl⟩
  replace G := Lib.hid (only_alloc G.out (.cells #[.int .i64 ku, .int .i64 ks, .int .i64 kh, .int .i64 ka, .int .i64 y] 27))
  replace C := Lib.hid (C.out.alloc (.cells #[.int .i64 ku, .int .i64 ks, .int .i64 kh, .int .i64 ka, .int .i64 y] 27))
  replace R := Lib.hid (alloc_blk (o := .cells #[.int .i64 ku, .int .i64 ks, .int .i64 kh, .int .i64 ka, .int .i64 y] 27) R.out)
  have K := Lib.hid (heap1 w2 (.cells #[.int .i64 ku, .int .i64 ks, .int .i64 kh, .int .i64 ka, .int .i64 y] 27))
  rw [hW3] at G C R K
  have sW3 : w2.heap.size < W3.heap.size := by rw [← hW3]; simp
  go_wp2_with fail
  clear hW3
  refine (l1Once_any _ g A n cap i2 h2 8 hn (by omega) (by omega) C.out).mono ?_
  rintro e w4 ⟨o, i4, h4, rfl, c, b⟩
  replace G := Lib.hid (only_trans G.out b)
  replace C := Lib.hid c
  replace R := Lib.hid (blk_kept b R.out (by omega))
  replace K := Lib.hid (blk_kept b K.out (by omega))
  have sw4 := b.size
  clear b c
  cases o with
  | false =>
    obtain ⟨⟨a0, a1, a2, a3, a4⟩, q0, q1, q2, q3, q4⟩ := blk5 R.out
    obtain ⟨⟨d0, d1, d2, d3, d4⟩, f0, f1, f2, f3, f4⟩ := blk5 K.out
    go_wp2
    exact row_ret (cs := List.toArray (RowV.cells ⟨⟨ku, ks, kh, ka⟩, y⟩)) rfl rfl (setAll_whole (vs := (RowV.cells ⟨⟨ku, ks, kh, ka⟩, y⟩)) R.out rfl) Tryz.underlying27 rfl (by kernel_rfl) rfl ⟨⟨⟨ku, ks, kh, ka⟩, y⟩, i4, h4, rfl, Cur.farAll hg (RowV.cells ⟨⟨ku, ks, kh, ka⟩, y⟩) 0 C.out, only_setAll (Nat.le_refl _) (RowV.cells ⟨⟨ku, ks, kh, ka⟩, y⟩) 0 G.out⟩
  | true =>
    go_wp2_with fail
    refine (l1Below_any _ g A n cap i4 h4 3 hn (by omega) (by omega) C.out).mono ?_
    rintro e w5 ⟨v, i5, h5, ⟨hv0, hv1⟩, rfl, c, b⟩
    replace G := Lib.hid (only_trans G.out b)
    replace C := Lib.hid c
    replace R := Lib.hid (blk_kept b R.out (by omega))
    replace K := Lib.hid (blk_kept b K.out (by omega))
    have sw5 := b.size
    clear b c
    have hv : v = 0 ∨ v = 1 ∨ v = 2 := by omega
    rcases hv with rfl | rfl | rfl
    · go_wp2_with fail
      refine (l3DrawAny_any _ g A n cap i5 h5 hn C.out).mono ?_
      rintro e w6 ⟨⟨ju, js, jh, ja⟩, i6, h6, rfl, c, b⟩
      replace G := Lib.hid (only_trans G.out b)
      replace C := Lib.hid c
      replace R := Lib.hid (blk_kept b R.out (by omega))
      replace K := Lib.hid (blk_kept b K.out (by omega))
      have sw6 := b.size
      clear b c
      unfold KeyV.val
      obtain ⟨⟨a0, a1, a2, a3, a4⟩, q0, q1, q2, q3, q4⟩ := blk5 R.out
      obtain ⟨⟨d0, d1, d2, d3, d4⟩, f0, f1, f2, f3, f4⟩ := blk5 K.out
      go_wp2
      exact row_ret (cs := List.toArray (RowV.cells ⟨⟨ju, js, jh, ja⟩, y⟩)) rfl rfl (setAll_whole (vs := (RowV.cells ⟨⟨ju, js, jh, ja⟩, y⟩)) (setAll_away (g := w2.heap.size) (by omega) [.int .i64 ju, .int .i64 js, .int .i64 jh, .int .i64 ja] 0 R.out) rfl) Tryz.underlying27 rfl (by kernel_rfl) rfl ⟨⟨⟨ju, js, jh, ja⟩, y⟩, i6, h6, rfl, Cur.farAll hg (RowV.cells ⟨⟨ju, js, jh, ja⟩, y⟩) 0 (Cur.farAll (r := w2.heap.size) (by omega) [.int .i64 ju, .int .i64 js, .int .i64 jh, .int .i64 ja] 0 C.out), only_setAll (Nat.le_refl _) (RowV.cells ⟨⟨ju, js, jh, ja⟩, y⟩) 0 (only_setAll (r := w2.heap.size) (by omega) [.int .i64 ju, .int .i64 js, .int .i64 jh, .int .i64 ja] 0 G.out)⟩
    · obtain ⟨⟨a0, a1, a2, a3, a4⟩, q0, q1, q2, q3, q4⟩ := blk5 R.out
      obtain ⟨⟨d0, d1, d2, d3, d4⟩, f0, f1, f2, f3, f4⟩ := blk5 K.out
      go_wp2
      exact row_ret (cs := List.toArray (RowV.cells ⟨⟨0, 0, 0, 0⟩, y⟩)) rfl rfl (setAll_whole (vs := (RowV.cells ⟨⟨0, 0, 0, 0⟩, y⟩)) (setAll_away (g := w2.heap.size) (by omega) [.int .i64 0, .int .i64 0, .int .i64 0, .int .i64 0] 0 R.out) rfl) Tryz.underlying27 rfl (by kernel_rfl) rfl ⟨⟨⟨0, 0, 0, 0⟩, y⟩, i5, h5, rfl, Cur.farAll hg (RowV.cells ⟨⟨0, 0, 0, 0⟩, y⟩) 0 (Cur.farAll (r := w2.heap.size) (by omega) [.int .i64 0, .int .i64 0, .int .i64 0, .int .i64 0] 0 C.out), only_setAll (Nat.le_refl _) (RowV.cells ⟨⟨0, 0, 0, 0⟩, y⟩) 0 (only_setAll (r := w2.heap.size) (by omega) [.int .i64 0, .int .i64 0, .int .i64 0, .int .i64 0] 0 G.out)⟩
    · obtain ⟨W6, hW6⟩ : ∃ W, w5.alloc (.cells #[.int .i64 (-1), .int .i64 999, .int .i64 1000, .int .i64 1001] 2) = W := ⟨_, rfl⟩
      replace G := Lib.hid (only_alloc G.out (.cells #[.int .i64 (-1), .int .i64 999, .int .i64 1000, .int .i64 1001] 2))
      replace C := Lib.hid (C.out.alloc (.cells #[.int .i64 (-1), .int .i64 999, .int .i64 1000, .int .i64 1001] 2))
      replace R := Lib.hid (alloc_blk (o := .cells #[.int .i64 (-1), .int .i64 999, .int .i64 1000, .int .i64 1001] 2) R.out)
      replace K := Lib.hid (alloc_blk (o := .cells #[.int .i64 (-1), .int .i64 999, .int .i64 1000, .int .i64 1001] 2) K.out)
      have L := Lib.hid (heap1 w5 (.cells #[.int .i64 (-1), .int .i64 999, .int .i64 1000, .int .i64 1001] 2))
      rw [hW6] at G C R K L
      have sW6 : w5.heap.size < W6.heap.size := by rw [← hW6]; simp
      go_wp2_with fail
      clear hW6
      refine (l1Below_any _ g A n cap i5 h5 4 hn (by omega) (by omega) C.out).mono ?_
      rintro e w7 ⟨v, i7, h7, ⟨hv0, hv1⟩, rfl, c, b⟩
      replace G := Lib.hid (only_trans G.out b)
      replace C := Lib.hid c
      replace R := Lib.hid (blk_kept b R.out (by omega))
      replace K := Lib.hid (blk_kept b K.out (by omega))
      replace L := Lib.hid (blk_kept b L.out (by omega))
      have sw7 := b.size
      clear b c
      obtain ⟨m, rfl⟩ := Int.eq_ofNat_of_zero_le hv0
      obtain ⟨zz, hz⟩ : ∃ z : Int, w7.cell? ⟨w5.heap.size, m, none⟩ = some (.int .i64 z) := by
        rw [blk_cell L.out]
        have hm : m = 0 ∨ m = 1 ∨ m = 2 ∨ m = 3 := by omega
        rcases hm with rfl | rfl | rfl | rfl <;> exact ⟨_, rfl⟩
      obtain ⟨⟨a0, a1, a2, a3, a4⟩, q0, q1, q2, q3, q4⟩ := blk5 R.out
      obtain ⟨⟨d0, d1, d2, d3, d4⟩, f0, f1, f2, f3, f4⟩ := blk5 K.out
      go_wp2
      exact row_ret (cs := List.toArray (RowV.cells ⟨⟨ku, ks, kh, ka⟩, zz⟩)) rfl rfl (setAll_whole (vs := (RowV.cells ⟨⟨ku, ks, kh, ka⟩, zz⟩)) (setAll_away (g := w2.heap.size) (by omega) [.int .i64 zz] 4 R.out) rfl) Tryz.underlying27 rfl (by kernel_rfl) rfl ⟨⟨⟨ku, ks, kh, ka⟩, zz⟩, i7, h7, rfl, Cur.farAll hg (RowV.cells ⟨⟨ku, ks, kh, ka⟩, zz⟩) 0 (Cur.farAll (r := w2.heap.size) (by omega) [.int .i64 zz] 4 C.out), only_setAll (Nat.le_refl _) (RowV.cells ⟨⟨ku, ks, kh, ka⟩, zz⟩) 0 (only_setAll (r := w2.heap.size) (by omega) [.int .i64 zz] 4 G.out)⟩

/-- What DrawPut leaves. -/
def PutIn (w : World) (e : Ending) (w' : World) : Prop := ∃ (r : RowV) (t : ByteArray), e = .returned (.tuple #[r.val, .string t]) ∧ Below w.heap.size w w'
/-- What DrawTake leaves. -/
def TakeIn (w : World) (e : Ending) (w' : World) : Prop := ∃ (r : RowV) (b : BoxV), e = .returned (.tuple #[r.val, b.val]) ∧ Below w.heap.size w w'
/-- What DrawTakeAll leaves. -/
def TakeAllIn (w : World) (e : Ending) (w' : World) : Prop := ∃ (r : RowV) (bs : List BoxV) (gb cb : Nat), bs.length ≤ 7 ∧ e = .returned (.tuple #[r.val, .slice (some ⟨gb, 0, none⟩) bs.length cb]) ∧ MadeB w' w.heap.size bs gb cb ∧ Below w.heap.size w w'
/-- What holds at the head of DrawTakeAll's loop. -/
def TakeDraw (w : World) (g base kb : Nat) (r : RowV) (A : Option Addr) (n cap : Nat) (m : Nat) (v : Value) (wr : World) : Prop :=
  ∃ (bs : List BoxV) (gb cb : Nat) (i h : Int), v = .slice (some ⟨gb, 0, none⟩) bs.length cb ∧ bs.length + m ≤ 7 ∧ MadeB wr base bs gb cb ∧ Cur wr g A n cap i h ∧
    wr.heap[w.heap.size]? = some (.cells RowV.zero.cells.toArray 27) ∧ wr.heap[kb]? = some (.cells r.cells.toArray 27) ∧ Below w.heap.size w wr
theorem cells_one (b : BoxV) (u : Value) (h : u ∈ b.cells) : u.oneCell' = true := by
  simp only [BoxV.cells, List.mem_cons, List.not_mem_nil, or_false] at h
  rcases h with rfl | rfl | rfl | rfl | rfl | rfl | rfl <;> rfl
/-- What DrawPutAll leaves. -/
def PutAllIn (w : World) (e : Ending) (w' : World) : Prop := ∃ (r : RowV) (ss : List ByteArray) (gb cb : Nat), ss.length ≤ 5 ∧ e = .returned (.tuple #[r.val, .slice (some ⟨gb, 0, none⟩) ss.length cb]) ∧ MadeS w' w.heap.size ss gb cb ∧ Below w.heap.size w w'

end Go.Proofs.YtchdmmlkgglmcaaGreatDoor.Tx
namespace Go.Proofs.YtchdmmlkgglmcaaGreatDoor.Tx
open Go.RowKit

/-- What a draw of a seat and boxes leaves. -/
def SeatDrawn (w : World) (g : Nat) (A : Option Addr) (n cap : Nat) (e : Ending) (w' : World) : Prop :=
  ∃ (s : SeatV) (B : Option Addr) (m mc : Nat) (l : List WordV) (bs : List BoxV) (gb cb : Nat) (i h : Int), m ≤ 100 ∧ bs.length ≤ 100 ∧ e = .returned (.tuple #[s.val B m mc, .slice (some ⟨gb, 0, none⟩) bs.length cb]) ∧ OutE w' w.heap.size 49 B m mc l ∧ MadeB w' w.heap.size bs gb cb ∧ Cur w' g A n cap i h ∧ w.grownBy w' (some g)
theorem own_cons {w : World} {B g c : Nat} {x : ByteArray} {ss : List ByteArray} (h : w.ownsRow B 9 1 (.slice (some ⟨g, 0, none⟩) (1 + ss.length) c) (1 + ss.length) ([.string x] ++ ss.map Value.string)) : MadeS w B (x :: ss) g c := by
  rw [Nat.add_comm] at h
  exact ⟨h⟩
theorem own_one {w : World} {B g : Nat} {t : TypeId} {v : Value} (hb : w.heap[g]? = some (.cells #[v] t (0, 0))) (hle : B ≤ g) : w.ownsRow B t 1 (.slice (some ⟨g, 0, none⟩) 1 1) 1 [v] :=
  ⟨rfl, .inr ⟨g, 1, #[v], rfl, hle, hb, Nat.le_refl _, by unfold maxLen; omega, rfl, rfl⟩⟩
theorem own_boxes {w : World} {B g c : Nat} {xs ys : List BoxV} (h : w.ownsRow B 32 7 (.slice (some ⟨g, 0, none⟩) (xs.length + ys.length) c) (xs.length + ys.length) (xs.flatMap BoxV.cells ++ ys.flatMap BoxV.cells)) : MadeB w B (xs ++ ys) g c := by
  refine ⟨?_⟩
  rw [List.length_append, List.flatMap_append]
  exact h
theorem news_boxes {w : World} {B g c : Nat} {bs : List BoxV} (h : MadeB w B bs g c) : ∀ j u, (bs.flatMap BoxV.cells)[j]? = some u → w.cell? ((⟨g, 0, none⟩ : Addr).add j) = some u := fun j u hu => by
  rw [Go.WideShapes.add_plain, Nat.zero_add]
  exact h.cell hu
theorem news_strs {w : World} {B g c : Nat} {ss : List ByteArray} (h : MadeS w B ss g c) : ∀ j u, (ss.map Value.string)[j]? = some u → w.cell? ((⟨g, 0, none⟩ : Addr).add j) = some u := fun j u hu => by
  rw [Go.WideShapes.add_plain, Nat.zero_add]
  exact h.cell hu

set_option maxRecDepth 100000 in
set_option maxHeartbeats 32000000 in
theorem l14Draw_any (w : World) (g : Nat) (A : Option Addr) (n cap : Nat) (i h : Int) (hn : n ≤ 4096) (B0 : Nat) (hB0 : B0 ≤ g) (hb : BytesAt w B0 A n) (c : Cur w g A n cap i h) :
    Calls Tryz.prog 48 #[.pointer (some ⟨g, 0, none⟩)] w (SeatDrawn w g A n cap) := by
  have hg := c.lt
  have C := Lib.hid c
  clear c
  have G := Lib.hid (only_refl w g)
  have hb0 := Lib.hid hb
  clear hb
  obtain ⟨V0, hV0⟩ : ∃ W, w.alloc (.cells #[.int .i64 0, .int .i64 0, .int .i64 0, .int .i64 0, .int .i64 0, .int .i64 0, .int .i64 0, .int .i64 0, .int .i64 0, .int .i64 0, .int .i64 0, .int .i64 0, .int .i64 0, .int .i64 0, .slice none 0 0] 30) = W := ⟨_, rfl⟩
  replace G := Lib.hid (only_alloc G.out (.cells #[.int .i64 0, .int .i64 0, .int .i64 0, .int .i64 0, .int .i64 0, .int .i64 0, .int .i64 0, .int .i64 0, .int .i64 0, .int .i64 0, .int .i64 0, .int .i64 0, .int .i64 0, .int .i64 0, .slice none 0 0] 30))
  replace C := Lib.hid (C.out.alloc (.cells #[.int .i64 0, .int .i64 0, .int .i64 0, .int .i64 0, .int .i64 0, .int .i64 0, .int .i64 0, .int .i64 0, .int .i64 0, .int .i64 0, .int .i64 0, .int .i64 0, .int .i64 0, .int .i64 0, .slice none 0 0] 30))
  have R0 := Lib.hid (heap1 w (.cells #[.int .i64 0, .int .i64 0, .int .i64 0, .int .i64 0, .int .i64 0, .int .i64 0, .int .i64 0, .int .i64 0, .int .i64 0, .int .i64 0, .int .i64 0, .int .i64 0, .int .i64 0, .int .i64 0, .slice none 0 0] 30))
  rw [hV0] at G C R0
  have sV0 : w.heap.size < V0.heap.size := by rw [← hV0]; simp
  go_enter Tryz.func48, Tryz.ntmps48
  go_wp2_with fail
  clear hV0
  refine (l1Below_any _ g A n cap i h 3 hn (by omega) (by omega) C.out).mono ?_
  rintro e w1 ⟨u, i1, h1, ⟨hu0, hu1⟩, rfl, c, b⟩
  replace G := Lib.hid (only_trans G.out b)
  replace C := Lib.hid c
  replace R0 := Lib.hid (blk_kept b R0.out (by omega))
  have sw1 := b.size
  clear b c
  go_wp2_with fail
  refine (l2Draw_any _ g A n cap i1 h1 hn C.out).mono ?_
  rintro e w2 ⟨s, i2, h2, ⟨_, _⟩, rfl, c, b⟩
  replace G := Lib.hid (only_trans G.out b)
  replace C := Lib.hid c
  replace R0 := Lib.hid (blk_kept b R0.out (by omega))
  have sw2 := b.size
  clear b c
  have hu : u = 0 ∨ u = 1 ∨ u = 2 := by omega
  rcases hu with rfl | rfl | rfl
  · go_wp2_with fail
    refine (l2Draw_any _ g A n cap i2 h2 hn C.out).mono ?_
    rintro e w3 ⟨d1, i3, h3, ⟨_, _⟩, rfl, c, b⟩
    replace G := Lib.hid (only_trans G.out b)
    replace C := Lib.hid c
    replace R0 := Lib.hid (blk_kept b R0.out (by omega))
    have sw3 := b.size
    clear b c
    go_wp2_with fail
    refine (l2Draw_any _ g A n cap i3 h3 hn C.out).mono ?_
    rintro e w4 ⟨d2, i4, h4, ⟨_, _⟩, rfl, c, b⟩
    replace G := Lib.hid (only_trans G.out b)
    replace C := Lib.hid c
    replace R0 := Lib.hid (blk_kept b R0.out (by omega))
    have sw4 := b.size
    clear b c
    go_wp2_with fail
    refine (NewSeat_spec d1 d2 1 0 _).mono ?_
    rintro e w5 ⟨rfl, b⟩
    replace G := Lib.hid (only_below G.out b)
    replace C := Lib.hid (C.out.below (b.mono C.out.lt))
    replace R0 := Lib.hid (blk_on b R0.out)
    have sw5 := b.size
    clear b
    obtain ⟨⟨st, sh, sd, sp, ⟨⟨eu, es, eh, ea⟩, en⟩, ⟨⟨fu, fs, fh, fa⟩, fn⟩⟩, hs⟩ : ∃ x, newSeatV d1 d2 1 0 = x := ⟨_, rfl⟩
    rw [hs]
    clear hs
    have HV : Hid (SeatV.val ⟨st, sh, sd, sp, ⟨⟨eu, es, eh, ea⟩, en⟩, ⟨⟨fu, fs, fh, fa⟩, fn⟩⟩ none 0 0 = .agg #[.int .i64 st, .int .i64 sh, .int .i64 sd, .int .i64 sp, .int .i64 eu, .int .i64 es, .int .i64 eh, .int .i64 ea, .int .i64 en, .int .i64 fu, .int .i64 fs, .int .i64 fh, .int .i64 fa, .int .i64 fn, .slice none 0 0]) := rfl
    rw [HV.out]
    clear HV
    obtain ⟨V6, hV6⟩ : ∃ W, w5.alloc (.cells #[.int .i64 0, .int .i64 0, .int .i64 0, .int .i64 0, .int .i64 0, .int .i64 0, .int .i64 0, .int .i64 0, .int .i64 0, .int .i64 0, .int .i64 0, .int .i64 0, .int .i64 0, .int .i64 0, .slice none 0 0] 30) = W := ⟨_, rfl⟩
    replace G := Lib.hid (only_alloc G.out (.cells #[.int .i64 0, .int .i64 0, .int .i64 0, .int .i64 0, .int .i64 0, .int .i64 0, .int .i64 0, .int .i64 0, .int .i64 0, .int .i64 0, .int .i64 0, .int .i64 0, .int .i64 0, .int .i64 0, .slice none 0 0] 30))
    replace C := Lib.hid (C.out.alloc (.cells #[.int .i64 0, .int .i64 0, .int .i64 0, .int .i64 0, .int .i64 0, .int .i64 0, .int .i64 0, .int .i64 0, .int .i64 0, .int .i64 0, .int .i64 0, .int .i64 0, .int .i64 0, .int .i64 0, .slice none 0 0] 30))
    replace R0 := Lib.hid (alloc_blk (o := .cells #[.int .i64 0, .int .i64 0, .int .i64 0, .int .i64 0, .int .i64 0, .int .i64 0, .int .i64 0, .int .i64 0, .int .i64 0, .int .i64 0, .int .i64 0, .int .i64 0, .int .i64 0, .int .i64 0, .slice none 0 0] 30) R0.out)
    have KS := Lib.hid (heap1 w5 (.cells #[.int .i64 0, .int .i64 0, .int .i64 0, .int .i64 0, .int .i64 0, .int .i64 0, .int .i64 0, .int .i64 0, .int .i64 0, .int .i64 0, .int .i64 0, .int .i64 0, .int .i64 0, .int .i64 0, .slice none 0 0] 30))
    rw [hV6] at G C R0 KS
    have sV6 : w5.heap.size < V6.heap.size := by rw [← hV6]; simp
    have KSo := KS
    have bs : Below w5.heap.size V6 (V6.setRow w5.heap.size #[.int .i64 st, .int .i64 sh, .int .i64 sd, .int .i64 sp, .int .i64 eu, .int .i64 es, .int .i64 eh, .int .i64 ea, .int .i64 en, .int .i64 fu, .int .i64 fs, .int .i64 fh, .int .i64 fa, .int .i64 fn, .slice none 0 0]) := below_setRow (Below.refl _ _) (Nat.le_refl _) _
    have KS2 : Hid ((V6.setRow w5.heap.size #[.int .i64 st, .int .i64 sh, .int .i64 sd, .int .i64 sp, .int .i64 eu, .int .i64 es, .int .i64 eh, .int .i64 ea, .int .i64 en, .int .i64 fu, .int .i64 fs, .int .i64 fh, .int .i64 fa, .int .i64 fn, .slice none 0 0]).heap[w5.heap.size]? = some (.cells #[.int .i64 st, .int .i64 sh, .int .i64 sd, .int .i64 sp, .int .i64 eu, .int .i64 es, .int .i64 eh, .int .i64 ea, .int .i64 en, .int .i64 fu, .int .i64 fs, .int .i64 fh, .int .i64 fa, .int .i64 fn, .slice none 0 0] 30)) := setRow_heap _ _ _ _ _ _ KS.out
    have G2 := Lib.hid (only_from G.out (bs.mono (show w.heap.size ≤ w5.heap.size by omega)) (Nat.le_refl _))
    have C2 := Lib.hid (C.out.below (bs.mono (by omega)))
    have R02 := Lib.hid (show (V6.setRow w5.heap.size #[.int .i64 st, .int .i64 sh, .int .i64 sd, .int .i64 sp, .int .i64 eu, .int .i64 es, .int .i64 eh, .int .i64 ea, .int .i64 en, .int .i64 fu, .int .i64 fs, .int .i64 fh, .int .i64 fa, .int .i64 fn, .slice none 0 0]).heap[_]? = _ from (setRow_other _ _ _ _ (by omega)).trans R0.out)
    have sR := bs.size
    go_wp2_with (first | (refine wpList_store_row rfl 30 _ _ rfl (w5.heap.size) #[.int .i64 st, .int .i64 sh, .int .i64 sd, .int .i64 sp, .int .i64 eu, .int .i64 es, .int .i64 eh, .int .i64 ea, .int .i64 en, .int .i64 fu, .int .i64 fs, .int .i64 fh, .int .i64 fa, .int .i64 fn, .slice none 0 0] rfl rfl 30 _ KSo.out (by kernel_rfl) rfl (by simp [Value.oneCell']) ?_))
    clear hV6 
    generalize (V6.setRow w5.heap.size #[.int .i64 st, .int .i64 sh, .int .i64 sd, .int .i64 sp, .int .i64 eu, .int .i64 es, .int .i64 eh, .int .i64 ea, .int .i64 en, .int .i64 fu, .int .i64 fs, .int .i64 fh, .int .i64 fa, .int .i64 fn, .slice none 0 0]) = S6 at KS2 G2 C2 R02 sR ⊢
    clear bs KSo KS G C R0
    have KS := KS2
    have G := G2
    have C := C2
    have R0 := R02
    clear KS2 G2 C2 R02
    have sSS6 : V6.heap.size ≤ S6.heap.size := sR
    clear sR
    refine (l1DrawList_any _ g A n cap i4 h4 hn C.out).mono ?_
    rintro e w7 ⟨ss, ga, ca, i7, h7, hss, rfl, m1, c, b⟩
    replace G := Lib.hid (only_trans G.out b)
    replace C := Lib.hid c
    replace R0 := Lib.hid (blk_kept b R0.out (by omega))
    replace KS := Lib.hid (blk_kept b KS.out (by omega))
    have sw7 := b.size
    have ML : Hid (MadeS w7 S6.heap.size ss ga ca) := ⟨m1.own⟩
    clear m1
    clear b c
    clear ML hss
    obtain ⟨V8, hV8⟩ : ∃ W, w7.alloc (.cells #[] 9) = W := ⟨_, rfl⟩
    replace G := Lib.hid (only_alloc G.out (.cells #[] 9))
    replace C := Lib.hid (C.out.alloc (.cells #[] 9))
    replace R0 := Lib.hid (alloc_blk (o := .cells #[] 9) R0.out)
    replace KS := Lib.hid (alloc_blk (o := .cells #[] 9) KS.out)
    have ME := Lib.hid (heap1 w7 (.cells #[] 9))
    rw [hV8] at G C R0 KS ME
    have sV8 : w7.heap.size < V8.heap.size := by rw [← hV8]; simp
    have ML : Hid (MadeS V8 w7.heap.size ([] : List ByteArray) w7.heap.size 0) := madeG_nil ME.out (Nat.le_refl _)
    clear ME
    have hssl : ([] : List ByteArray).length ≤ 5 := by simp
    obtain ⟨⟨⟨qu, qs, qh, qa⟩, qn⟩, hq⟩ : ∃ x, (if rowOkB ⟨⟨eu, es, eh, ea⟩, en⟩ then putAllR ⟨⟨eu, es, eh, ea⟩, en⟩ ([] : List ByteArray) else .zero) = x := ⟨_, rfl⟩
    obtain ⟨xs, hxs⟩ : ∃ x, (if rowOkB ⟨⟨eu, es, eh, ea⟩, en⟩ then putAllL ⟨⟨eu, es, eh, ea⟩, en⟩ ([] : List ByteArray) else []) = x := ⟨_, rfl⟩
    have hlxs : xs.length ≤ 5 := by
      rw [← hxs]
      split
      · exact Nat.le_trans (putAllL_length _ _) (by first | (simp; omega) | simp | omega)
      · exact Nat.zero_le _
    have hPA := PutAll_spec ⟨⟨eu, es, eh, ea⟩, en⟩ _ _ 0 ([] : List ByteArray) V8 (madeS_strs ML.out) (by omega)
    unfold PutAllOut at hPA
    rw [hq, hxs] at hPA
    clear hq hxs
    obtain ⟨⟨k0, k1, k2, k3, k4, k5, k6, k7, k8, k9, k10, k11, k12, k13, k14⟩, _⟩ := blk15 KS.out
    go_wp2_with fail
    clear k0 k1 k2 k3 k4 k5 k6 k7 k8 k9 k10 k11 k12 k13 k14 hV8
    refine (hPA).mono ?_
    rintro e w9 ⟨gb, cb, rfl, m1, b⟩
    replace G := Lib.hid (only_below G.out b)
    replace C := Lib.hid (C.out.below (b.mono C.out.lt))
    replace R0 := Lib.hid (blk_on b R0.out)
    replace KS := Lib.hid (blk_on b KS.out)
    replace ML := Lib.hid (ML.out.below b)
    have sw9 := b.size
    have M1 := Lib.hid m1
    have hgb1 := m1.base
    clear m1 hPA
    clear b
    clear ML
    have HV : Hid (RowV.val ⟨⟨qu, qs, qh, qa⟩, qn⟩ = .agg #[.int .i64 qu, .int .i64 qs, .int .i64 qh, .int .i64 qa, .int .i64 qn]) := rfl
    rw [HV.out]
    clear HV
    obtain ⟨V10, hV10⟩ : ∃ W, w9.alloc (.cells #[.int .i64 0, .int .i64 0, .int .i64 0, .int .i64 0, .int .i64 0] 27) = W := ⟨_, rfl⟩
    replace G := Lib.hid (only_alloc G.out (.cells #[.int .i64 0, .int .i64 0, .int .i64 0, .int .i64 0, .int .i64 0] 27))
    replace C := Lib.hid (C.out.alloc (.cells #[.int .i64 0, .int .i64 0, .int .i64 0, .int .i64 0, .int .i64 0] 27))
    replace R0 := Lib.hid (alloc_blk (o := .cells #[.int .i64 0, .int .i64 0, .int .i64 0, .int .i64 0, .int .i64 0] 27) R0.out)
    replace KS := Lib.hid (alloc_blk (o := .cells #[.int .i64 0, .int .i64 0, .int .i64 0, .int .i64 0, .int .i64 0] 27) KS.out)
    replace M1 := Lib.hid (M1.out.alloc (.cells #[.int .i64 0, .int .i64 0, .int .i64 0, .int .i64 0, .int .i64 0] 27))
    have KR := Lib.hid (heap1 w9 (.cells #[.int .i64 0, .int .i64 0, .int .i64 0, .int .i64 0, .int .i64 0] 27))
    rw [hV10] at G C R0 KS M1 KR
    have sV10 : w9.heap.size < V10.heap.size := by rw [← hV10]; simp
    have KRo := KR
    have bs : Below w9.heap.size V10 (V10.setRow w9.heap.size #[.int .i64 qu, .int .i64 qs, .int .i64 qh, .int .i64 qa, .int .i64 qn]) := below_setRow (Below.refl _ _) (Nat.le_refl _) _
    have KR2 : Hid ((V10.setRow w9.heap.size #[.int .i64 qu, .int .i64 qs, .int .i64 qh, .int .i64 qa, .int .i64 qn]).heap[w9.heap.size]? = some (.cells #[.int .i64 qu, .int .i64 qs, .int .i64 qh, .int .i64 qa, .int .i64 qn] 27)) := setRow_heap _ _ _ _ _ _ KR.out
    have G2 := Lib.hid (only_from G.out (bs.mono (show w.heap.size ≤ w9.heap.size by omega)) (Nat.le_refl _))
    have C2 := Lib.hid (C.out.below (bs.mono (by omega)))
    have R02 := Lib.hid (show (V10.setRow w9.heap.size #[.int .i64 qu, .int .i64 qs, .int .i64 qh, .int .i64 qa, .int .i64 qn]).heap[_]? = _ from (setRow_other _ _ _ _ (by omega)).trans R0.out)
    have KS2 := Lib.hid (show (V10.setRow w9.heap.size #[.int .i64 qu, .int .i64 qs, .int .i64 qh, .int .i64 qa, .int .i64 qn]).heap[_]? = _ from (setRow_other _ _ _ _ (by omega)).trans KS.out)
    have M12 := Lib.hid (M1.out.heap (w' := (V10.setRow w9.heap.size #[.int .i64 qu, .int .i64 qs, .int .i64 qh, .int .i64 qa, .int .i64 qn])) (setRow_other _ _ _ _ (by have := M1.out.base; omega)))
    have sR := bs.size
    go_wp2_with (first | (refine wpList_store_row rfl 27 _ _ rfl (w9.heap.size) #[.int .i64 qu, .int .i64 qs, .int .i64 qh, .int .i64 qa, .int .i64 qn] rfl rfl 27 _ KRo.out (by kernel_rfl) rfl (by simp [Value.oneCell']) ?_))
    clear hV10 
    generalize (V10.setRow w9.heap.size #[.int .i64 qu, .int .i64 qs, .int .i64 qh, .int .i64 qa, .int .i64 qn]) = S10 at KR2 G2 C2 R02 KS2 M12 sR ⊢
    clear bs KRo KR G C R0 KS M1
    have KR := KR2
    have G := G2
    have C := C2
    have R0 := R02
    have KS := KS2
    have M1 := M12
    clear KR2 G2 C2 R02 KS2 M12
    have sSS10 : V10.heap.size ≤ S10.heap.size := sR
    clear sR
    clear KR
    obtain ⟨tn, htn0⟩ : ∃ t, intT 0 = t := ⟨_, rfl⟩
    have htn : tn.size ≤ 19 := by
      rw [← htn0, intT, if_neg (by omega)]
      exact (decT_size (by omega)).2
    have htn3 : (⟨#[101, 110, 100]⟩ : ByteArray).size = 3 := rfl
    obtain ⟨i0, hi, hz0, hz1, hz2⟩ := info_parts infoString
    have BT := Lib.hid (hb0.out.below (below_of_only G.out hB0 hg))
    have pL : g ∉ ([] : List Nat) := by simp <;> omega
    have pB : B0 ≤ g := by omega
    have pLB : ∀ k ∈ ([] : List Nat), B0 ≤ k := by simp <;> omega
    refine wp_region_curp (W := S10) [] pL C.out BT.out pB pLB (fun _ => True) (stays_true) (trivial) [0, 0, 0, 0, 1, 0, 2, 0, 1, 4, 1, 0, 0, 0, 2, 3, 0] [0, 1, 2, 3, 4, 5, 7, 8, 6, 9, 10, 11, 12, 13, 14, 15, 16] (by kernel_rfl) (by kernel_rfl) (by kernel_rfl) ?_
    simp only [List.map_cons, List.map_nil, List.filterMap_cons, List.filterMap_nil, List.getD_cons_zero, List.getD_cons_succ, List.getElem?_cons_zero, List.getElem?_cons_succ]
    have fk : ∀ q : In (curEnv S10 [] g A n cap pL ⟨_, _, C.out⟩ BT.out pB pLB), _ := fun q => (blk15 (q.blkc KS.out (by simp; omega))).1
    refine wpO_quiet 4 rfl (by kernel_rfl) ?_
    simp only [List.take, List.drop]
    repeat (go_big_quiet_step (fail))
    refine wpQuiet_nil ?_
    refine wpO_call (f := 34) (args := #[.int .i64 0]) (.string tn) rfl (fun w' => by simp [go_sem]) (fun w' hw _ => ?_) ?_
    · obtain ⟨hkb, i', h', c'⟩ := hw
      exact (l1Int_any 0 ⟨by omega, by omega⟩ w').mono fun e w'' ⟨he, b1⟩ => ⟨by rw [he, htn0], ⟨⟨b1.os, b1.tape, b1.output, b1.size, fun k hk _ => b1.block k hk⟩, i', h', c'.below (b1.mono c'.lt)⟩⟩
    simp only [Act.put, List.setIfInBounds_toArray, List.set_cons_succ, List.set_cons_zero]
    refine wpO_quiet 2 rfl (by kernel_rfl) ?_
    simp only [List.take, List.drop]
    repeat (go_big_quiet_step (fail))
    refine wpQuiet_nil ?_
    refine wpO_callx (f := 66) (args := #[.pointer (some ⟨g, 0, none⟩)]) (α := { x : List ByteArray × Nat × Nat // x.1.length ≤ 5 }) (fun x => .slice (some ⟨x.1.2.1, 0, none⟩) x.1.1.length x.1.2.2) (fun x => [x.1.2.1]) (fun x w' => MadeS w' S10.heap.size x.1.1 x.1.2.1 x.1.2.2) rfl (fun w' => by simp [go_sem]) (fun x w1 w2 hw h b => ?_) (fun G => ?_) (fun w' hw _ => ?_) (fun x hx => ?_)
    · exact h.kept b.1 (by intro e; have e1 := Option.some.inj e; have := h.base; omega)
    · obtain ⟨g, hg, hn⟩ := fresh_above S10.heap.size G
      exact ⟨⟨([], g, 0), by simp⟩, fun k hk => by simp at hk; subst hk; exact ⟨hg, hn⟩⟩
    · obtain ⟨hkb, i', h', c'⟩ := hw
      exact (l1DrawList_any _ _ A n cap i' h' hn c').mono fun e w'' ⟨ss, gb, cb, i1, h1, hs, he, m1, c1, b1⟩ => ⟨⟨(ss, gb, cb), hs⟩, he, MadeG.mono ⟨m1.own⟩ hkb.size, ⟨b1, i1, h1, c1⟩, fun k hk => by simp at hk; subst hk; exact m1.base⟩
    obtain ⟨⟨ts, gt, ct⟩, hts⟩ := x
    have hgt : S10.heap.size ≤ gt := (hx gt (by simp)).1
    dsimp only at hts ⊢
    simp only [Act.put, List.setIfInBounds_toArray, List.set_cons_succ, List.set_cons_zero]
    refine wpO_row (.cells #[.string (⟨#[101, 110, 100]⟩ ++ tn)] 9) 1 rfl (fun w' => by simp [go_sem]) fun ge mge hge => ?_
    have hge0 : S10.heap.size ≤ ge := mge
    simp only [Act.put, List.setIfInBounds_toArray, List.set_cons_succ, List.set_cons_zero]
    refine wpO_append4 (fun _ => True) _ _ 45 rfl rfl S10.heap.size 9 i0 (.string ByteArray.empty) 1 16 Tryz.underlying45 hi hz0 hz1 hz2 rfl (by decide) 1 [.string (⟨#[101, 110, 100]⟩ ++ tn)] ge 1 rfl (.inl hge0) (.inr (by simp)) ⟨gt, 0, none⟩ ts.length ct (ts.map Value.string) rfl (by simp) (by intro u hu; obtain ⟨t, _, rfl⟩ := List.mem_map.1 hu; rfl) (by unfold maxLen; omega) (by omega) (Nat.le_refl _) (fun k hk => .inl hk) (fun w' hw hF => ⟨trivial, own_one hF.2 hge0, news_strs hF.1.2⟩) stays_true (away_true _) fun gl cl hgl => ?_
    simp only [Act.put, List.setIfInBounds_toArray, List.set_cons_succ, List.set_cons_zero]
    obtain ⟨⟨⟨ru, rs, rh, ra⟩, rn⟩, hr⟩ : ∃ x, (if rowOkB ⟨⟨fu, fs, fh, fa⟩, fn⟩ then putAllR ⟨⟨fu, fs, fh, fa⟩, fn⟩ ((⟨#[101, 110, 100]⟩ ++ tn) :: ts) else .zero) = x := ⟨_, rfl⟩
    obtain ⟨ys, hys⟩ : ∃ x, (if rowOkB ⟨⟨fu, fs, fh, fa⟩, fn⟩ then putAllL ⟨⟨fu, fs, fh, fa⟩, fn⟩ ((⟨#[101, 110, 100]⟩ ++ tn) :: ts) else []) = x := ⟨_, rfl⟩
    have hlys : ys.length ≤ 6 := by
      rw [← hys]
      split
      · exact Nat.le_trans (putAllL_length _ _) (by first | (simp; omega) | simp | omega)
      · exact Nat.zero_le _
    refine wpO_callx (f := 67) (args := #[.agg #[.int .i64 fu, .int .i64 fs, .int .i64 fh, .int .i64 fa, .int .i64 fn], .slice (some ⟨gl, 0, none⟩) (1 + ts.length) cl]) (α := Nat × Nat) (fun x => .tuple #[.agg #[.int .i64 ru, .int .i64 rs, .int .i64 rh, .int .i64 ra, .int .i64 rn], .slice (some ⟨x.1, 0, none⟩) ys.length x.2]) (fun x => [x.1]) (fun x w' => MadeB w' S10.heap.size ys x.1 x.2) rfl (fun w' => by simp [go_sem]) (fun x w1 w2 hw h b => ?_) (fun G => ?_) (fun w' hw hF => ?_) (fun x hx => ?_)
    · exact h.kept b.1 (by intro e; have e1 := Option.some.inj e; have := h.base; omega)
    · obtain ⟨g, hg, hn⟩ := fresh_above S10.heap.size G
      exact ⟨(g, 0), fun k hk => by simp at hk; subst hk; exact ⟨hg, hn⟩⟩
    · obtain ⟨hkb, i', h', c'⟩ := hw
      have h1 := PutAll_spec ⟨⟨fu, fs, fh, fa⟩, fn⟩ _ _ cl _ w' (by have h9 := madeS_strs (own_cons hF.2); rw [List.length_cons, Nat.add_comm] at h9; exact h9) (by omega)
      unfold PutAllOut at h1
      rw [hr, hys] at h1
      exact h1.mono fun e w'' ⟨gb, cb, he, m1, b1⟩ => ⟨(gb, cb), he, m1.mono hkb.size, ⟨⟨b1.os, b1.tape, b1.output, b1.size, fun k hk _ => b1.block k hk⟩, i', h', c'.below (b1.mono c'.lt)⟩, fun k hk => by simp at hk; subst hk; exact m1.base⟩
    obtain ⟨gp, cp⟩ := x
    have hgp : S10.heap.size ≤ gp := (hx gp (by simp)).1
    dsimp only
    clear hr hys
    simp only [Act.put, List.setIfInBounds_toArray, List.set_cons_succ, List.set_cons_zero]
    refine wpO_quiet 3 rfl (by kernel_rfl) ?_
    simp only [List.take, List.drop]
    repeat (go_big_quiet_step (fail))
    refine wpQuiet_nil ?_
    refine wpO_alloc (.cells #[.int .i64 0, .int .i64 0, .int .i64 0, .int .i64 0, .int .i64 0] 27) rfl (fun w' => by simp [go_sem]) fun g6 mg6 hn6 => ?_
    have hg6 : S10.heap.size ≤ g6 := mg6
    have hne6 : gp ≠ g6 := fun e => hn6 (by rw [← e]; simp)
    simp only [Act.put, List.setIfInBounds_toArray, List.set_cons_succ, List.set_cons_zero]
    refine wpO_store (g := g6) (t := 27) (old := #[.int .i64 0, .int .i64 0, .int .i64 0, .int .i64 0, .int .i64 0]) (fun w' => MadeB w' S10.heap.size ys gp cp) #[.int .i64 ru, .int .i64 rs, .int .i64 rh, .int .i64 ra, .int .i64 rn] rfl rfl rfl rfl (Env.own _ mg6) (by kernel_rfl) rfl rfl (fun w' h => ⟨h.1.2, h.2⟩) (fun w1 w2 hw h b => h.kept b.1 (by intro e; have e1 := Option.some.inj e; have := h.base; omega)) (fun w1 w2 hw h => h.heap (hw gp h.base.2 hne6)) ?_
    simp only [Act.put]
    refine wpO_quiet 1 rfl (by kernel_rfl) ?_
    simp only [List.take, List.drop]
    repeat (go_big_quiet_step (fail))
    refine wpQuiet_nil ?_
    refine wpO_nil ?_
    rintro w11 ⟨b11, i11, h11, c11⟩ ⟨H4, _⟩
    have b := b11.only
    have c := c11
    clear fk b11
    replace G := Lib.hid (only_trans G.out b)
    replace C := Lib.hid c
    replace R0 := Lib.hid (blk_kept b R0.out (by omega))
    replace KS := Lib.hid (blk_kept b KS.out (by omega))
    replace M1 := Lib.hid (M1.out.kept b (by intro e; have e1 := Option.some.inj e; omega))
    have M2 := Lib.hid H4
    have hgp2 := H4.base
    have sw11 := b.size
    clear b c c11 H4
    go_wp2
    obtain ⟨base, hbase⟩ : ∃ x, V8.heap.size = x := ⟨_, rfl⟩
    have M1b : Hid (MadeB w11 base xs gb cb) := hbase ▸ M1.out
    obtain ⟨L, hL⟩ : ∃ L, L = w.heap.size :: List.range' base (w11.heap.size - base) := ⟨_, rfl⟩
    have hLm : ∀ k, base ≤ k → w11.heap.size ≤ k ∨ k ∈ L := fun k hk => by
      rcases Nat.lt_or_ge k w11.heap.size with h | h
      · exact .inr (by rw [hL]; exact List.mem_cons_of_mem _ (List.mem_range'_1.2 ⟨hk, by omega⟩))
      · exact .inl h
    have hLr : w.heap.size ∈ L := by rw [hL]; exact List.mem_cons_self
    have hLn : w5.heap.size ∉ L := fun h => by
      rw [hL] at h
      rcases List.mem_cons.1 h with h | h
      · omega
      · have := (List.mem_range'_1.1 h).1; omega
    have hLg : ∀ k ∈ L, w.heap.size ≤ k := fun k h => by
      rw [hL] at h
      rcases List.mem_cons.1 h with h | h
      · omega
      · have := (List.mem_range'_1.1 h).1; omega
    clear hL
    obtain ⟨i1, by1, hi1, hy0, hy1, hy2, hby⟩ := infoBoxE
    refine wp_region_own (W := w11) L (fun w' => w'.heap[w.heap.size]? = some (.cells #[.int .i64 0, .int .i64 0, .int .i64 0, .int .i64 0, .int .i64 0, .int .i64 0, .int .i64 0, .int .i64 0, .int .i64 0, .int .i64 0, .int .i64 0, .int .i64 0, .int .i64 0, .int .i64 0, .slice none 0 0] 30) ∧ MadeB w' base xs gb cb ∧ MadeB w' base ys gp cp) (stays_and (stays_blk (E := plainEnv w11 L) (.inr hLr) _) (stays_and (fun w1 w2 hw h b => h.below b) (fun w1 w2 hw h b => h.below b))) ⟨R0.out, M1b.out.heap rfl, (M2.out.mono (by omega)).heap rfl⟩ [0, 0, 0, 3, 3, 0] (by kernel_rfl) (by kernel_rfl) (by kernel_rfl) ?_
    refine wpO_load_row rfl 30 _ rfl (w5.heap.size) rfl 30 _ (0, 0) _ (fun q => q.block KS.out hLn) Tryz.underlying30 rfl (by kernel_rfl) ?_
    simp only [Act.put, List.setIfInBounds_toArray, List.set_cons_succ, List.set_cons_zero]
    refine wpO_quiet 2 rfl (by kernel_rfl) ?_
    simp only [List.take, List.drop]
    repeat (go_big_quiet_step (fail))
    refine wpQuiet_nil ?_
    refine wpO_append0 (fun w' => w'.heap[w.heap.size]? = some (.cells #[.int .i64 0, .int .i64 0, .int .i64 0, .int .i64 0, .int .i64 0, .int .i64 0, .int .i64 0, .int .i64 0, .int .i64 0, .int .i64 0, .int .i64 0, .int .i64 0, .int .i64 0, .int .i64 0, .slice none 0 0] 30)) _ _ 52 rfl rfl base 32 i1 BoxV.zero.val 7 by1 Tryz.underlying52 hi1 hy0 hy1 hy2 rfl (by decide) xs.length (xs.flatMap BoxV.cells) gb cb rfl (hLm _ M1b.out.base.1) ⟨gp, 0, none⟩ ys.length cp (ys.flatMap BoxV.cells) rfl (cells_flat _) (by intro u hu; obtain ⟨b, _, hb⟩ := List.mem_flatMap.1 hu; exact cells_one b u hb) (by unfold maxLen; omega) (Nat.le_trans (Nat.mul_le_mul (by omega : xs.length + ys.length ≤ 1048576) hby) (by decide)) (by show base ≤ w11.heap.size; omega) hLm (fun w' hw hF => ⟨hF.1, hF.2.1.own, news_boxes hF.2.2⟩) (stays_blk (E := plainEnv w11 L) (.inr hLr) _) (away_blk (by have := M1b.out.base; omega) _) fun gn cn hgn => ?_
    simp only [Act.put, List.setIfInBounds_toArray, List.set_cons_succ, List.set_cons_zero]
    refine wpO_store (g := w.heap.size) (t := 30) (old := #[.int .i64 0, .int .i64 0, .int .i64 0, .int .i64 0, .int .i64 0, .int .i64 0, .int .i64 0, .int .i64 0, .int .i64 0, .int .i64 0, .int .i64 0, .int .i64 0, .int .i64 0, .int .i64 0, .slice none 0 0]) (fun w' => MadeB w' base (xs ++ ys) gn cn) #[.int .i64 st, .int .i64 sh, .int .i64 sd, .int .i64 sp, .int .i64 eu, .int .i64 es, .int .i64 eh, .int .i64 ea, .int .i64 en, .int .i64 fu, .int .i64 fs, .int .i64 fh, .int .i64 fa, .int .i64 fn, .slice none 0 0] rfl rfl rfl rfl (.inr hLr) (by kernel_rfl) rfl rfl (fun w' h => ⟨own_boxes h.2, h.1⟩) (fun w1 w2 hw h b => h.below b) (fun w1 w2 hw h => h.heap (hw gn h.base.2 (by omega))) ?_
    simp only [Act.put]
    refine wpO_quiet 1 rfl (by kernel_rfl) ?_
    simp only [List.take, List.drop]
    repeat (go_big_quiet_step (fail))
    refine wpQuiet_nil ?_
    refine wpO_nil ?_
    rintro w12 b12 ⟨H5, H6⟩
    have HM := Lib.hid H5
    have HR := Lib.hid H6
    have hKB : Hid (Below w.heap.size w11 w12) := KeptBut.below b12 (by omega) hLg
    clear b12 H5 H6
    go_wp2
    exact row_ret2 (r := w.heap.size) (cs := #[.int .i64 st, .int .i64 sh, .int .i64 sd, .int .i64 sp, .int .i64 eu, .int .i64 es, .int .i64 eh, .int .i64 ea, .int .i64 en, .int .i64 fu, .int .i64 fs, .int .i64 fh, .int .i64 fa, .int .i64 fn, .slice none 0 0]) rfl rfl rfl HR.out Tryz.underlying30 rfl (by kernel_rfl) rfl ⟨⟨st, sh, sd, sp, ⟨⟨eu, es, eh, ea⟩, en⟩, ⟨⟨fu, fs, fh, fa⟩, fn⟩⟩, none, 0, 0, [], xs ++ ys, gn, cn, i11, h11, by omega, by rw [List.length_append]; omega, by rw [List.length_append]; rfl, .inl ⟨rfl, rfl, rfl, rfl⟩, HM.out.mono (by omega), C.out.below (hKB.out.mono (by omega)), only_from G.out hKB.out (Nat.le_refl _)⟩
  · go_wp2_with fail
    refine (l2Draw_any _ g A n cap i2 h2 hn C.out).mono ?_
    rintro e w3 ⟨d1, i3, h3, ⟨_, _⟩, rfl, c, b⟩
    replace G := Lib.hid (only_trans G.out b)
    replace C := Lib.hid c
    replace R0 := Lib.hid (blk_kept b R0.out (by omega))
    have sw3 := b.size
    clear b c
    go_wp2_with fail
    refine (l2Draw_any _ g A n cap i3 h3 hn C.out).mono ?_
    rintro e w4 ⟨d2, i4, h4, ⟨_, _⟩, rfl, c, b⟩
    replace G := Lib.hid (only_trans G.out b)
    replace C := Lib.hid c
    replace R0 := Lib.hid (blk_kept b R0.out (by omega))
    have sw4 := b.size
    clear b c
    go_wp2_with fail
    refine (NewSeat_spec d1 d2 2 s _).mono ?_
    rintro e w5 ⟨rfl, b⟩
    replace G := Lib.hid (only_below G.out b)
    replace C := Lib.hid (C.out.below (b.mono C.out.lt))
    replace R0 := Lib.hid (blk_on b R0.out)
    have sw5 := b.size
    clear b
    obtain ⟨⟨st, sh, sd, sp, ⟨⟨eu, es, eh, ea⟩, en⟩, ⟨⟨fu, fs, fh, fa⟩, fn⟩⟩, hs⟩ : ∃ x, newSeatV d1 d2 2 s = x := ⟨_, rfl⟩
    rw [hs]
    clear hs
    have HV : Hid (SeatV.val ⟨st, sh, sd, sp, ⟨⟨eu, es, eh, ea⟩, en⟩, ⟨⟨fu, fs, fh, fa⟩, fn⟩⟩ none 0 0 = .agg #[.int .i64 st, .int .i64 sh, .int .i64 sd, .int .i64 sp, .int .i64 eu, .int .i64 es, .int .i64 eh, .int .i64 ea, .int .i64 en, .int .i64 fu, .int .i64 fs, .int .i64 fh, .int .i64 fa, .int .i64 fn, .slice none 0 0]) := rfl
    rw [HV.out]
    clear HV
    obtain ⟨V6, hV6⟩ : ∃ W, w5.alloc (.cells #[.int .i64 0, .int .i64 0, .int .i64 0, .int .i64 0, .int .i64 0, .int .i64 0, .int .i64 0, .int .i64 0, .int .i64 0, .int .i64 0, .int .i64 0, .int .i64 0, .int .i64 0, .int .i64 0, .slice none 0 0] 30) = W := ⟨_, rfl⟩
    replace G := Lib.hid (only_alloc G.out (.cells #[.int .i64 0, .int .i64 0, .int .i64 0, .int .i64 0, .int .i64 0, .int .i64 0, .int .i64 0, .int .i64 0, .int .i64 0, .int .i64 0, .int .i64 0, .int .i64 0, .int .i64 0, .int .i64 0, .slice none 0 0] 30))
    replace C := Lib.hid (C.out.alloc (.cells #[.int .i64 0, .int .i64 0, .int .i64 0, .int .i64 0, .int .i64 0, .int .i64 0, .int .i64 0, .int .i64 0, .int .i64 0, .int .i64 0, .int .i64 0, .int .i64 0, .int .i64 0, .int .i64 0, .slice none 0 0] 30))
    replace R0 := Lib.hid (alloc_blk (o := .cells #[.int .i64 0, .int .i64 0, .int .i64 0, .int .i64 0, .int .i64 0, .int .i64 0, .int .i64 0, .int .i64 0, .int .i64 0, .int .i64 0, .int .i64 0, .int .i64 0, .int .i64 0, .int .i64 0, .slice none 0 0] 30) R0.out)
    have KS := Lib.hid (heap1 w5 (.cells #[.int .i64 0, .int .i64 0, .int .i64 0, .int .i64 0, .int .i64 0, .int .i64 0, .int .i64 0, .int .i64 0, .int .i64 0, .int .i64 0, .int .i64 0, .int .i64 0, .int .i64 0, .int .i64 0, .slice none 0 0] 30))
    rw [hV6] at G C R0 KS
    have sV6 : w5.heap.size < V6.heap.size := by rw [← hV6]; simp
    have KSo := KS
    have bs : Below w5.heap.size V6 (V6.setRow w5.heap.size #[.int .i64 st, .int .i64 sh, .int .i64 sd, .int .i64 sp, .int .i64 eu, .int .i64 es, .int .i64 eh, .int .i64 ea, .int .i64 en, .int .i64 fu, .int .i64 fs, .int .i64 fh, .int .i64 fa, .int .i64 fn, .slice none 0 0]) := below_setRow (Below.refl _ _) (Nat.le_refl _) _
    have KS2 : Hid ((V6.setRow w5.heap.size #[.int .i64 st, .int .i64 sh, .int .i64 sd, .int .i64 sp, .int .i64 eu, .int .i64 es, .int .i64 eh, .int .i64 ea, .int .i64 en, .int .i64 fu, .int .i64 fs, .int .i64 fh, .int .i64 fa, .int .i64 fn, .slice none 0 0]).heap[w5.heap.size]? = some (.cells #[.int .i64 st, .int .i64 sh, .int .i64 sd, .int .i64 sp, .int .i64 eu, .int .i64 es, .int .i64 eh, .int .i64 ea, .int .i64 en, .int .i64 fu, .int .i64 fs, .int .i64 fh, .int .i64 fa, .int .i64 fn, .slice none 0 0] 30)) := setRow_heap _ _ _ _ _ _ KS.out
    have G2 := Lib.hid (only_from G.out (bs.mono (show w.heap.size ≤ w5.heap.size by omega)) (Nat.le_refl _))
    have C2 := Lib.hid (C.out.below (bs.mono (by omega)))
    have R02 := Lib.hid (show (V6.setRow w5.heap.size #[.int .i64 st, .int .i64 sh, .int .i64 sd, .int .i64 sp, .int .i64 eu, .int .i64 es, .int .i64 eh, .int .i64 ea, .int .i64 en, .int .i64 fu, .int .i64 fs, .int .i64 fh, .int .i64 fa, .int .i64 fn, .slice none 0 0]).heap[_]? = _ from (setRow_other _ _ _ _ (by omega)).trans R0.out)
    have sR := bs.size
    go_wp2_with (first | (refine wpList_store_row rfl 30 _ _ rfl (w5.heap.size) #[.int .i64 st, .int .i64 sh, .int .i64 sd, .int .i64 sp, .int .i64 eu, .int .i64 es, .int .i64 eh, .int .i64 ea, .int .i64 en, .int .i64 fu, .int .i64 fs, .int .i64 fh, .int .i64 fa, .int .i64 fn, .slice none 0 0] rfl rfl 30 _ KSo.out (by kernel_rfl) rfl (by simp [Value.oneCell']) ?_))
    clear hV6 
    generalize (V6.setRow w5.heap.size #[.int .i64 st, .int .i64 sh, .int .i64 sd, .int .i64 sp, .int .i64 eu, .int .i64 es, .int .i64 eh, .int .i64 ea, .int .i64 en, .int .i64 fu, .int .i64 fs, .int .i64 fh, .int .i64 fa, .int .i64 fn, .slice none 0 0]) = S6 at KS2 G2 C2 R02 sR ⊢
    clear bs KSo KS G C R0
    have KS := KS2
    have G := G2
    have C := C2
    have R0 := R02
    clear KS2 G2 C2 R02
    have sSS6 : V6.heap.size ≤ S6.heap.size := sR
    clear sR
    refine (l1DrawList_any _ g A n cap i4 h4 hn C.out).mono ?_
    rintro e w7 ⟨ss, ga, ca, i7, h7, hss, rfl, m1, c, b⟩
    replace G := Lib.hid (only_trans G.out b)
    replace C := Lib.hid c
    replace R0 := Lib.hid (blk_kept b R0.out (by omega))
    replace KS := Lib.hid (blk_kept b KS.out (by omega))
    have sw7 := b.size
    have ML : Hid (MadeS w7 S6.heap.size ss ga ca) := ⟨m1.own⟩
    clear m1
    clear b c
    clear ML hss
    obtain ⟨V8, hV8⟩ : ∃ W, w7.alloc (.cells #[] 9) = W := ⟨_, rfl⟩
    replace G := Lib.hid (only_alloc G.out (.cells #[] 9))
    replace C := Lib.hid (C.out.alloc (.cells #[] 9))
    replace R0 := Lib.hid (alloc_blk (o := .cells #[] 9) R0.out)
    replace KS := Lib.hid (alloc_blk (o := .cells #[] 9) KS.out)
    have ME := Lib.hid (heap1 w7 (.cells #[] 9))
    rw [hV8] at G C R0 KS ME
    have sV8 : w7.heap.size < V8.heap.size := by rw [← hV8]; simp
    have ML : Hid (MadeS V8 w7.heap.size ([] : List ByteArray) w7.heap.size 0) := madeG_nil ME.out (Nat.le_refl _)
    clear ME
    have hssl : ([] : List ByteArray).length ≤ 5 := by simp
    obtain ⟨⟨⟨qu, qs, qh, qa⟩, qn⟩, hq⟩ : ∃ x, (if rowOkB ⟨⟨eu, es, eh, ea⟩, en⟩ then putAllR ⟨⟨eu, es, eh, ea⟩, en⟩ ([] : List ByteArray) else .zero) = x := ⟨_, rfl⟩
    obtain ⟨xs, hxs⟩ : ∃ x, (if rowOkB ⟨⟨eu, es, eh, ea⟩, en⟩ then putAllL ⟨⟨eu, es, eh, ea⟩, en⟩ ([] : List ByteArray) else []) = x := ⟨_, rfl⟩
    have hlxs : xs.length ≤ 5 := by
      rw [← hxs]
      split
      · exact Nat.le_trans (putAllL_length _ _) (by first | (simp; omega) | simp | omega)
      · exact Nat.zero_le _
    have hPA := PutAll_spec ⟨⟨eu, es, eh, ea⟩, en⟩ _ _ 0 ([] : List ByteArray) V8 (madeS_strs ML.out) (by omega)
    unfold PutAllOut at hPA
    rw [hq, hxs] at hPA
    clear hq hxs
    obtain ⟨⟨k0, k1, k2, k3, k4, k5, k6, k7, k8, k9, k10, k11, k12, k13, k14⟩, _⟩ := blk15 KS.out
    go_wp2_with fail
    clear k0 k1 k2 k3 k4 k5 k6 k7 k8 k9 k10 k11 k12 k13 k14 hV8
    refine (hPA).mono ?_
    rintro e w9 ⟨gb, cb, rfl, m1, b⟩
    replace G := Lib.hid (only_below G.out b)
    replace C := Lib.hid (C.out.below (b.mono C.out.lt))
    replace R0 := Lib.hid (blk_on b R0.out)
    replace KS := Lib.hid (blk_on b KS.out)
    replace ML := Lib.hid (ML.out.below b)
    have sw9 := b.size
    have M1 := Lib.hid m1
    have hgb1 := m1.base
    clear m1 hPA
    clear b
    clear ML
    have HV : Hid (RowV.val ⟨⟨qu, qs, qh, qa⟩, qn⟩ = .agg #[.int .i64 qu, .int .i64 qs, .int .i64 qh, .int .i64 qa, .int .i64 qn]) := rfl
    rw [HV.out]
    clear HV
    obtain ⟨V10, hV10⟩ : ∃ W, w9.alloc (.cells #[.int .i64 0, .int .i64 0, .int .i64 0, .int .i64 0, .int .i64 0] 27) = W := ⟨_, rfl⟩
    replace G := Lib.hid (only_alloc G.out (.cells #[.int .i64 0, .int .i64 0, .int .i64 0, .int .i64 0, .int .i64 0] 27))
    replace C := Lib.hid (C.out.alloc (.cells #[.int .i64 0, .int .i64 0, .int .i64 0, .int .i64 0, .int .i64 0] 27))
    replace R0 := Lib.hid (alloc_blk (o := .cells #[.int .i64 0, .int .i64 0, .int .i64 0, .int .i64 0, .int .i64 0] 27) R0.out)
    replace KS := Lib.hid (alloc_blk (o := .cells #[.int .i64 0, .int .i64 0, .int .i64 0, .int .i64 0, .int .i64 0] 27) KS.out)
    replace M1 := Lib.hid (M1.out.alloc (.cells #[.int .i64 0, .int .i64 0, .int .i64 0, .int .i64 0, .int .i64 0] 27))
    have KR := Lib.hid (heap1 w9 (.cells #[.int .i64 0, .int .i64 0, .int .i64 0, .int .i64 0, .int .i64 0] 27))
    rw [hV10] at G C R0 KS M1 KR
    have sV10 : w9.heap.size < V10.heap.size := by rw [← hV10]; simp
    have KRo := KR
    have bs : Below w9.heap.size V10 (V10.setRow w9.heap.size #[.int .i64 qu, .int .i64 qs, .int .i64 qh, .int .i64 qa, .int .i64 qn]) := below_setRow (Below.refl _ _) (Nat.le_refl _) _
    have KR2 : Hid ((V10.setRow w9.heap.size #[.int .i64 qu, .int .i64 qs, .int .i64 qh, .int .i64 qa, .int .i64 qn]).heap[w9.heap.size]? = some (.cells #[.int .i64 qu, .int .i64 qs, .int .i64 qh, .int .i64 qa, .int .i64 qn] 27)) := setRow_heap _ _ _ _ _ _ KR.out
    have G2 := Lib.hid (only_from G.out (bs.mono (show w.heap.size ≤ w9.heap.size by omega)) (Nat.le_refl _))
    have C2 := Lib.hid (C.out.below (bs.mono (by omega)))
    have R02 := Lib.hid (show (V10.setRow w9.heap.size #[.int .i64 qu, .int .i64 qs, .int .i64 qh, .int .i64 qa, .int .i64 qn]).heap[_]? = _ from (setRow_other _ _ _ _ (by omega)).trans R0.out)
    have KS2 := Lib.hid (show (V10.setRow w9.heap.size #[.int .i64 qu, .int .i64 qs, .int .i64 qh, .int .i64 qa, .int .i64 qn]).heap[_]? = _ from (setRow_other _ _ _ _ (by omega)).trans KS.out)
    have M12 := Lib.hid (M1.out.heap (w' := (V10.setRow w9.heap.size #[.int .i64 qu, .int .i64 qs, .int .i64 qh, .int .i64 qa, .int .i64 qn])) (setRow_other _ _ _ _ (by have := M1.out.base; omega)))
    have sR := bs.size
    go_wp2_with (first | (refine wpList_store_row rfl 27 _ _ rfl (w9.heap.size) #[.int .i64 qu, .int .i64 qs, .int .i64 qh, .int .i64 qa, .int .i64 qn] rfl rfl 27 _ KRo.out (by kernel_rfl) rfl (by simp [Value.oneCell']) ?_))
    clear hV10 
    generalize (V10.setRow w9.heap.size #[.int .i64 qu, .int .i64 qs, .int .i64 qh, .int .i64 qa, .int .i64 qn]) = S10 at KR2 G2 C2 R02 KS2 M12 sR ⊢
    clear bs KRo KR G C R0 KS M1
    have KR := KR2
    have G := G2
    have C := C2
    have R0 := R02
    have KS := KS2
    have M1 := M12
    clear KR2 G2 C2 R02 KS2 M12
    have sSS10 : V10.heap.size ≤ S10.heap.size := sR
    clear sR
    clear KR
    obtain ⟨tn, htn0⟩ : ∃ t, intT 0 = t := ⟨_, rfl⟩
    have htn : tn.size ≤ 19 := by
      rw [← htn0, intT, if_neg (by omega)]
      exact (decT_size (by omega)).2
    have htn3 : (⟨#[101, 110, 100]⟩ : ByteArray).size = 3 := rfl
    obtain ⟨i0, hi, hz0, hz1, hz2⟩ := info_parts infoString
    have BT := Lib.hid (hb0.out.below (below_of_only G.out hB0 hg))
    have pL : g ∉ ([] : List Nat) := by simp <;> omega
    have pB : B0 ≤ g := by omega
    have pLB : ∀ k ∈ ([] : List Nat), B0 ≤ k := by simp <;> omega
    refine wp_region_curp (W := S10) [] pL C.out BT.out pB pLB (fun _ => True) (stays_true) (trivial) [0, 0, 0, 0, 1, 0, 2, 0, 1, 4, 1, 0, 0, 0, 2, 3, 0] [0, 1, 2, 3, 4, 5, 7, 8, 6, 9, 10, 11, 12, 13, 14, 15, 16] (by kernel_rfl) (by kernel_rfl) (by kernel_rfl) ?_
    simp only [List.map_cons, List.map_nil, List.filterMap_cons, List.filterMap_nil, List.getD_cons_zero, List.getD_cons_succ, List.getElem?_cons_zero, List.getElem?_cons_succ]
    have fk : ∀ q : In (curEnv S10 [] g A n cap pL ⟨_, _, C.out⟩ BT.out pB pLB), _ := fun q => (blk15 (q.blkc KS.out (by simp; omega))).1
    refine wpO_quiet 4 rfl (by kernel_rfl) ?_
    simp only [List.take, List.drop]
    repeat (go_big_quiet_step (fail))
    refine wpQuiet_nil ?_
    refine wpO_call (f := 34) (args := #[.int .i64 0]) (.string tn) rfl (fun w' => by simp [go_sem]) (fun w' hw _ => ?_) ?_
    · obtain ⟨hkb, i', h', c'⟩ := hw
      exact (l1Int_any 0 ⟨by omega, by omega⟩ w').mono fun e w'' ⟨he, b1⟩ => ⟨by rw [he, htn0], ⟨⟨b1.os, b1.tape, b1.output, b1.size, fun k hk _ => b1.block k hk⟩, i', h', c'.below (b1.mono c'.lt)⟩⟩
    simp only [Act.put, List.setIfInBounds_toArray, List.set_cons_succ, List.set_cons_zero]
    refine wpO_quiet 2 rfl (by kernel_rfl) ?_
    simp only [List.take, List.drop]
    repeat (go_big_quiet_step (fail))
    refine wpQuiet_nil ?_
    refine wpO_callx (f := 66) (args := #[.pointer (some ⟨g, 0, none⟩)]) (α := { x : List ByteArray × Nat × Nat // x.1.length ≤ 5 }) (fun x => .slice (some ⟨x.1.2.1, 0, none⟩) x.1.1.length x.1.2.2) (fun x => [x.1.2.1]) (fun x w' => MadeS w' S10.heap.size x.1.1 x.1.2.1 x.1.2.2) rfl (fun w' => by simp [go_sem]) (fun x w1 w2 hw h b => ?_) (fun G => ?_) (fun w' hw _ => ?_) (fun x hx => ?_)
    · exact h.kept b.1 (by intro e; have e1 := Option.some.inj e; have := h.base; omega)
    · obtain ⟨g, hg, hn⟩ := fresh_above S10.heap.size G
      exact ⟨⟨([], g, 0), by simp⟩, fun k hk => by simp at hk; subst hk; exact ⟨hg, hn⟩⟩
    · obtain ⟨hkb, i', h', c'⟩ := hw
      exact (l1DrawList_any _ _ A n cap i' h' hn c').mono fun e w'' ⟨ss, gb, cb, i1, h1, hs, he, m1, c1, b1⟩ => ⟨⟨(ss, gb, cb), hs⟩, he, MadeG.mono ⟨m1.own⟩ hkb.size, ⟨b1, i1, h1, c1⟩, fun k hk => by simp at hk; subst hk; exact m1.base⟩
    obtain ⟨⟨ts, gt, ct⟩, hts⟩ := x
    have hgt : S10.heap.size ≤ gt := (hx gt (by simp)).1
    dsimp only at hts ⊢
    simp only [Act.put, List.setIfInBounds_toArray, List.set_cons_succ, List.set_cons_zero]
    refine wpO_row (.cells #[.string (⟨#[101, 110, 100]⟩ ++ tn)] 9) 1 rfl (fun w' => by simp [go_sem]) fun ge mge hge => ?_
    have hge0 : S10.heap.size ≤ ge := mge
    simp only [Act.put, List.setIfInBounds_toArray, List.set_cons_succ, List.set_cons_zero]
    refine wpO_append4 (fun _ => True) _ _ 45 rfl rfl S10.heap.size 9 i0 (.string ByteArray.empty) 1 16 Tryz.underlying45 hi hz0 hz1 hz2 rfl (by decide) 1 [.string (⟨#[101, 110, 100]⟩ ++ tn)] ge 1 rfl (.inl hge0) (.inr (by simp)) ⟨gt, 0, none⟩ ts.length ct (ts.map Value.string) rfl (by simp) (by intro u hu; obtain ⟨t, _, rfl⟩ := List.mem_map.1 hu; rfl) (by unfold maxLen; omega) (by omega) (Nat.le_refl _) (fun k hk => .inl hk) (fun w' hw hF => ⟨trivial, own_one hF.2 hge0, news_strs hF.1.2⟩) stays_true (away_true _) fun gl cl hgl => ?_
    simp only [Act.put, List.setIfInBounds_toArray, List.set_cons_succ, List.set_cons_zero]
    obtain ⟨⟨⟨ru, rs, rh, ra⟩, rn⟩, hr⟩ : ∃ x, (if rowOkB ⟨⟨fu, fs, fh, fa⟩, fn⟩ then putAllR ⟨⟨fu, fs, fh, fa⟩, fn⟩ ((⟨#[101, 110, 100]⟩ ++ tn) :: ts) else .zero) = x := ⟨_, rfl⟩
    obtain ⟨ys, hys⟩ : ∃ x, (if rowOkB ⟨⟨fu, fs, fh, fa⟩, fn⟩ then putAllL ⟨⟨fu, fs, fh, fa⟩, fn⟩ ((⟨#[101, 110, 100]⟩ ++ tn) :: ts) else []) = x := ⟨_, rfl⟩
    have hlys : ys.length ≤ 6 := by
      rw [← hys]
      split
      · exact Nat.le_trans (putAllL_length _ _) (by first | (simp; omega) | simp | omega)
      · exact Nat.zero_le _
    refine wpO_callx (f := 67) (args := #[.agg #[.int .i64 fu, .int .i64 fs, .int .i64 fh, .int .i64 fa, .int .i64 fn], .slice (some ⟨gl, 0, none⟩) (1 + ts.length) cl]) (α := Nat × Nat) (fun x => .tuple #[.agg #[.int .i64 ru, .int .i64 rs, .int .i64 rh, .int .i64 ra, .int .i64 rn], .slice (some ⟨x.1, 0, none⟩) ys.length x.2]) (fun x => [x.1]) (fun x w' => MadeB w' S10.heap.size ys x.1 x.2) rfl (fun w' => by simp [go_sem]) (fun x w1 w2 hw h b => ?_) (fun G => ?_) (fun w' hw hF => ?_) (fun x hx => ?_)
    · exact h.kept b.1 (by intro e; have e1 := Option.some.inj e; have := h.base; omega)
    · obtain ⟨g, hg, hn⟩ := fresh_above S10.heap.size G
      exact ⟨(g, 0), fun k hk => by simp at hk; subst hk; exact ⟨hg, hn⟩⟩
    · obtain ⟨hkb, i', h', c'⟩ := hw
      have h1 := PutAll_spec ⟨⟨fu, fs, fh, fa⟩, fn⟩ _ _ cl _ w' (by have h9 := madeS_strs (own_cons hF.2); rw [List.length_cons, Nat.add_comm] at h9; exact h9) (by omega)
      unfold PutAllOut at h1
      rw [hr, hys] at h1
      exact h1.mono fun e w'' ⟨gb, cb, he, m1, b1⟩ => ⟨(gb, cb), he, m1.mono hkb.size, ⟨⟨b1.os, b1.tape, b1.output, b1.size, fun k hk _ => b1.block k hk⟩, i', h', c'.below (b1.mono c'.lt)⟩, fun k hk => by simp at hk; subst hk; exact m1.base⟩
    obtain ⟨gp, cp⟩ := x
    have hgp : S10.heap.size ≤ gp := (hx gp (by simp)).1
    dsimp only
    clear hr hys
    simp only [Act.put, List.setIfInBounds_toArray, List.set_cons_succ, List.set_cons_zero]
    refine wpO_quiet 3 rfl (by kernel_rfl) ?_
    simp only [List.take, List.drop]
    repeat (go_big_quiet_step (fail))
    refine wpQuiet_nil ?_
    refine wpO_alloc (.cells #[.int .i64 0, .int .i64 0, .int .i64 0, .int .i64 0, .int .i64 0] 27) rfl (fun w' => by simp [go_sem]) fun g6 mg6 hn6 => ?_
    have hg6 : S10.heap.size ≤ g6 := mg6
    have hne6 : gp ≠ g6 := fun e => hn6 (by rw [← e]; simp)
    simp only [Act.put, List.setIfInBounds_toArray, List.set_cons_succ, List.set_cons_zero]
    refine wpO_store (g := g6) (t := 27) (old := #[.int .i64 0, .int .i64 0, .int .i64 0, .int .i64 0, .int .i64 0]) (fun w' => MadeB w' S10.heap.size ys gp cp) #[.int .i64 ru, .int .i64 rs, .int .i64 rh, .int .i64 ra, .int .i64 rn] rfl rfl rfl rfl (Env.own _ mg6) (by kernel_rfl) rfl rfl (fun w' h => ⟨h.1.2, h.2⟩) (fun w1 w2 hw h b => h.kept b.1 (by intro e; have e1 := Option.some.inj e; have := h.base; omega)) (fun w1 w2 hw h => h.heap (hw gp h.base.2 hne6)) ?_
    simp only [Act.put]
    refine wpO_quiet 1 rfl (by kernel_rfl) ?_
    simp only [List.take, List.drop]
    repeat (go_big_quiet_step (fail))
    refine wpQuiet_nil ?_
    refine wpO_nil ?_
    rintro w11 ⟨b11, i11, h11, c11⟩ ⟨H4, _⟩
    have b := b11.only
    have c := c11
    clear fk b11
    replace G := Lib.hid (only_trans G.out b)
    replace C := Lib.hid c
    replace R0 := Lib.hid (blk_kept b R0.out (by omega))
    replace KS := Lib.hid (blk_kept b KS.out (by omega))
    replace M1 := Lib.hid (M1.out.kept b (by intro e; have e1 := Option.some.inj e; omega))
    have M2 := Lib.hid H4
    have hgp2 := H4.base
    have sw11 := b.size
    clear b c c11 H4
    go_wp2
    obtain ⟨base, hbase⟩ : ∃ x, V8.heap.size = x := ⟨_, rfl⟩
    have M1b : Hid (MadeB w11 base xs gb cb) := hbase ▸ M1.out
    obtain ⟨L, hL⟩ : ∃ L, L = w.heap.size :: List.range' base (w11.heap.size - base) := ⟨_, rfl⟩
    have hLm : ∀ k, base ≤ k → w11.heap.size ≤ k ∨ k ∈ L := fun k hk => by
      rcases Nat.lt_or_ge k w11.heap.size with h | h
      · exact .inr (by rw [hL]; exact List.mem_cons_of_mem _ (List.mem_range'_1.2 ⟨hk, by omega⟩))
      · exact .inl h
    have hLr : w.heap.size ∈ L := by rw [hL]; exact List.mem_cons_self
    have hLn : w5.heap.size ∉ L := fun h => by
      rw [hL] at h
      rcases List.mem_cons.1 h with h | h
      · omega
      · have := (List.mem_range'_1.1 h).1; omega
    have hLg : ∀ k ∈ L, w.heap.size ≤ k := fun k h => by
      rw [hL] at h
      rcases List.mem_cons.1 h with h | h
      · omega
      · have := (List.mem_range'_1.1 h).1; omega
    clear hL
    obtain ⟨i1, by1, hi1, hy0, hy1, hy2, hby⟩ := infoBoxE
    refine wp_region_own (W := w11) L (fun w' => w'.heap[w.heap.size]? = some (.cells #[.int .i64 0, .int .i64 0, .int .i64 0, .int .i64 0, .int .i64 0, .int .i64 0, .int .i64 0, .int .i64 0, .int .i64 0, .int .i64 0, .int .i64 0, .int .i64 0, .int .i64 0, .int .i64 0, .slice none 0 0] 30) ∧ MadeB w' base xs gb cb ∧ MadeB w' base ys gp cp) (stays_and (stays_blk (E := plainEnv w11 L) (.inr hLr) _) (stays_and (fun w1 w2 hw h b => h.below b) (fun w1 w2 hw h b => h.below b))) ⟨R0.out, M1b.out.heap rfl, (M2.out.mono (by omega)).heap rfl⟩ [0, 0, 0, 3, 3, 0] (by kernel_rfl) (by kernel_rfl) (by kernel_rfl) ?_
    refine wpO_load_row rfl 30 _ rfl (w5.heap.size) rfl 30 _ (0, 0) _ (fun q => q.block KS.out hLn) Tryz.underlying30 rfl (by kernel_rfl) ?_
    simp only [Act.put, List.setIfInBounds_toArray, List.set_cons_succ, List.set_cons_zero]
    refine wpO_quiet 2 rfl (by kernel_rfl) ?_
    simp only [List.take, List.drop]
    repeat (go_big_quiet_step (fail))
    refine wpQuiet_nil ?_
    refine wpO_append0 (fun w' => w'.heap[w.heap.size]? = some (.cells #[.int .i64 0, .int .i64 0, .int .i64 0, .int .i64 0, .int .i64 0, .int .i64 0, .int .i64 0, .int .i64 0, .int .i64 0, .int .i64 0, .int .i64 0, .int .i64 0, .int .i64 0, .int .i64 0, .slice none 0 0] 30)) _ _ 52 rfl rfl base 32 i1 BoxV.zero.val 7 by1 Tryz.underlying52 hi1 hy0 hy1 hy2 rfl (by decide) xs.length (xs.flatMap BoxV.cells) gb cb rfl (hLm _ M1b.out.base.1) ⟨gp, 0, none⟩ ys.length cp (ys.flatMap BoxV.cells) rfl (cells_flat _) (by intro u hu; obtain ⟨b, _, hb⟩ := List.mem_flatMap.1 hu; exact cells_one b u hb) (by unfold maxLen; omega) (Nat.le_trans (Nat.mul_le_mul (by omega : xs.length + ys.length ≤ 1048576) hby) (by decide)) (by show base ≤ w11.heap.size; omega) hLm (fun w' hw hF => ⟨hF.1, hF.2.1.own, news_boxes hF.2.2⟩) (stays_blk (E := plainEnv w11 L) (.inr hLr) _) (away_blk (by have := M1b.out.base; omega) _) fun gn cn hgn => ?_
    simp only [Act.put, List.setIfInBounds_toArray, List.set_cons_succ, List.set_cons_zero]
    refine wpO_store (g := w.heap.size) (t := 30) (old := #[.int .i64 0, .int .i64 0, .int .i64 0, .int .i64 0, .int .i64 0, .int .i64 0, .int .i64 0, .int .i64 0, .int .i64 0, .int .i64 0, .int .i64 0, .int .i64 0, .int .i64 0, .int .i64 0, .slice none 0 0]) (fun w' => MadeB w' base (xs ++ ys) gn cn) #[.int .i64 st, .int .i64 sh, .int .i64 sd, .int .i64 sp, .int .i64 eu, .int .i64 es, .int .i64 eh, .int .i64 ea, .int .i64 en, .int .i64 fu, .int .i64 fs, .int .i64 fh, .int .i64 fa, .int .i64 fn, .slice none 0 0] rfl rfl rfl rfl (.inr hLr) (by kernel_rfl) rfl rfl (fun w' h => ⟨own_boxes h.2, h.1⟩) (fun w1 w2 hw h b => h.below b) (fun w1 w2 hw h => h.heap (hw gn h.base.2 (by omega))) ?_
    simp only [Act.put]
    refine wpO_quiet 1 rfl (by kernel_rfl) ?_
    simp only [List.take, List.drop]
    repeat (go_big_quiet_step (fail))
    refine wpQuiet_nil ?_
    refine wpO_nil ?_
    rintro w12 b12 ⟨H5, H6⟩
    have HM := Lib.hid H5
    have HR := Lib.hid H6
    have hKB : Hid (Below w.heap.size w11 w12) := KeptBut.below b12 (by omega) hLg
    clear b12 H5 H6
    go_wp2
    exact row_ret2 (r := w.heap.size) (cs := #[.int .i64 st, .int .i64 sh, .int .i64 sd, .int .i64 sp, .int .i64 eu, .int .i64 es, .int .i64 eh, .int .i64 ea, .int .i64 en, .int .i64 fu, .int .i64 fs, .int .i64 fh, .int .i64 fa, .int .i64 fn, .slice none 0 0]) rfl rfl rfl HR.out Tryz.underlying30 rfl (by kernel_rfl) rfl ⟨⟨st, sh, sd, sp, ⟨⟨eu, es, eh, ea⟩, en⟩, ⟨⟨fu, fs, fh, fa⟩, fn⟩⟩, none, 0, 0, [], xs ++ ys, gn, cn, i11, h11, by omega, by rw [List.length_append]; omega, by rw [List.length_append]; rfl, .inl ⟨rfl, rfl, rfl, rfl⟩, HM.out.mono (by omega), C.out.below (hKB.out.mono (by omega)), only_from G.out hKB.out (Nat.le_refl _)⟩
  · go_wp2_with fail
    refine (l2Draw_any _ g A n cap i2 h2 hn C.out).mono ?_
    rintro e w3 ⟨d1, i3, h3, ⟨_, _⟩, rfl, c, b⟩
    replace G := Lib.hid (only_trans G.out b)
    replace C := Lib.hid c
    replace R0 := Lib.hid (blk_kept b R0.out (by omega))
    have sw3 := b.size
    clear b c
    go_wp2_with fail
    refine (l2Draw_any _ g A n cap i3 h3 hn C.out).mono ?_
    rintro e w4 ⟨d2, i4, h4, ⟨_, _⟩, rfl, c, b⟩
    replace G := Lib.hid (only_trans G.out b)
    replace C := Lib.hid c
    replace R0 := Lib.hid (blk_kept b R0.out (by omega))
    have sw4 := b.size
    clear b c
    go_wp2_with fail
    refine (NewSeat_spec d1 d2 3 s _).mono ?_
    rintro e w5 ⟨rfl, b⟩
    replace G := Lib.hid (only_below G.out b)
    replace C := Lib.hid (C.out.below (b.mono C.out.lt))
    replace R0 := Lib.hid (blk_on b R0.out)
    have sw5 := b.size
    clear b
    obtain ⟨⟨st, sh, sd, sp, ⟨⟨eu, es, eh, ea⟩, en⟩, ⟨⟨fu, fs, fh, fa⟩, fn⟩⟩, hs⟩ : ∃ x, newSeatV d1 d2 3 s = x := ⟨_, rfl⟩
    rw [hs]
    clear hs
    have HV : Hid (SeatV.val ⟨st, sh, sd, sp, ⟨⟨eu, es, eh, ea⟩, en⟩, ⟨⟨fu, fs, fh, fa⟩, fn⟩⟩ none 0 0 = .agg #[.int .i64 st, .int .i64 sh, .int .i64 sd, .int .i64 sp, .int .i64 eu, .int .i64 es, .int .i64 eh, .int .i64 ea, .int .i64 en, .int .i64 fu, .int .i64 fs, .int .i64 fh, .int .i64 fa, .int .i64 fn, .slice none 0 0]) := rfl
    rw [HV.out]
    clear HV
    obtain ⟨V6, hV6⟩ : ∃ W, w5.alloc (.cells #[.int .i64 0, .int .i64 0, .int .i64 0, .int .i64 0, .int .i64 0, .int .i64 0, .int .i64 0, .int .i64 0, .int .i64 0, .int .i64 0, .int .i64 0, .int .i64 0, .int .i64 0, .int .i64 0, .slice none 0 0] 30) = W := ⟨_, rfl⟩
    replace G := Lib.hid (only_alloc G.out (.cells #[.int .i64 0, .int .i64 0, .int .i64 0, .int .i64 0, .int .i64 0, .int .i64 0, .int .i64 0, .int .i64 0, .int .i64 0, .int .i64 0, .int .i64 0, .int .i64 0, .int .i64 0, .int .i64 0, .slice none 0 0] 30))
    replace C := Lib.hid (C.out.alloc (.cells #[.int .i64 0, .int .i64 0, .int .i64 0, .int .i64 0, .int .i64 0, .int .i64 0, .int .i64 0, .int .i64 0, .int .i64 0, .int .i64 0, .int .i64 0, .int .i64 0, .int .i64 0, .int .i64 0, .slice none 0 0] 30))
    replace R0 := Lib.hid (alloc_blk (o := .cells #[.int .i64 0, .int .i64 0, .int .i64 0, .int .i64 0, .int .i64 0, .int .i64 0, .int .i64 0, .int .i64 0, .int .i64 0, .int .i64 0, .int .i64 0, .int .i64 0, .int .i64 0, .int .i64 0, .slice none 0 0] 30) R0.out)
    have KS := Lib.hid (heap1 w5 (.cells #[.int .i64 0, .int .i64 0, .int .i64 0, .int .i64 0, .int .i64 0, .int .i64 0, .int .i64 0, .int .i64 0, .int .i64 0, .int .i64 0, .int .i64 0, .int .i64 0, .int .i64 0, .int .i64 0, .slice none 0 0] 30))
    rw [hV6] at G C R0 KS
    have sV6 : w5.heap.size < V6.heap.size := by rw [← hV6]; simp
    have KSo := KS
    have bs : Below w5.heap.size V6 (V6.setRow w5.heap.size #[.int .i64 st, .int .i64 sh, .int .i64 sd, .int .i64 sp, .int .i64 eu, .int .i64 es, .int .i64 eh, .int .i64 ea, .int .i64 en, .int .i64 fu, .int .i64 fs, .int .i64 fh, .int .i64 fa, .int .i64 fn, .slice none 0 0]) := below_setRow (Below.refl _ _) (Nat.le_refl _) _
    have KS2 : Hid ((V6.setRow w5.heap.size #[.int .i64 st, .int .i64 sh, .int .i64 sd, .int .i64 sp, .int .i64 eu, .int .i64 es, .int .i64 eh, .int .i64 ea, .int .i64 en, .int .i64 fu, .int .i64 fs, .int .i64 fh, .int .i64 fa, .int .i64 fn, .slice none 0 0]).heap[w5.heap.size]? = some (.cells #[.int .i64 st, .int .i64 sh, .int .i64 sd, .int .i64 sp, .int .i64 eu, .int .i64 es, .int .i64 eh, .int .i64 ea, .int .i64 en, .int .i64 fu, .int .i64 fs, .int .i64 fh, .int .i64 fa, .int .i64 fn, .slice none 0 0] 30)) := setRow_heap _ _ _ _ _ _ KS.out
    have G2 := Lib.hid (only_from G.out (bs.mono (show w.heap.size ≤ w5.heap.size by omega)) (Nat.le_refl _))
    have C2 := Lib.hid (C.out.below (bs.mono (by omega)))
    have R02 := Lib.hid (show (V6.setRow w5.heap.size #[.int .i64 st, .int .i64 sh, .int .i64 sd, .int .i64 sp, .int .i64 eu, .int .i64 es, .int .i64 eh, .int .i64 ea, .int .i64 en, .int .i64 fu, .int .i64 fs, .int .i64 fh, .int .i64 fa, .int .i64 fn, .slice none 0 0]).heap[_]? = _ from (setRow_other _ _ _ _ (by omega)).trans R0.out)
    have sR := bs.size
    go_wp2_with (first | (refine wpList_store_row rfl 30 _ _ rfl (w5.heap.size) #[.int .i64 st, .int .i64 sh, .int .i64 sd, .int .i64 sp, .int .i64 eu, .int .i64 es, .int .i64 eh, .int .i64 ea, .int .i64 en, .int .i64 fu, .int .i64 fs, .int .i64 fh, .int .i64 fa, .int .i64 fn, .slice none 0 0] rfl rfl 30 _ KSo.out (by kernel_rfl) rfl (by simp [Value.oneCell']) ?_))
    clear hV6 
    generalize (V6.setRow w5.heap.size #[.int .i64 st, .int .i64 sh, .int .i64 sd, .int .i64 sp, .int .i64 eu, .int .i64 es, .int .i64 eh, .int .i64 ea, .int .i64 en, .int .i64 fu, .int .i64 fs, .int .i64 fh, .int .i64 fa, .int .i64 fn, .slice none 0 0]) = S6 at KS2 G2 C2 R02 sR ⊢
    clear bs KSo KS G C R0
    have KS := KS2
    have G := G2
    have C := C2
    have R0 := R02
    clear KS2 G2 C2 R02
    have sSS6 : V6.heap.size ≤ S6.heap.size := sR
    clear sR
    refine (l1DrawList_any _ g A n cap i4 h4 hn C.out).mono ?_
    rintro e w7 ⟨ss, ga, ca, i7, h7, hss, rfl, m1, c, b⟩
    replace G := Lib.hid (only_trans G.out b)
    replace C := Lib.hid c
    replace R0 := Lib.hid (blk_kept b R0.out (by omega))
    replace KS := Lib.hid (blk_kept b KS.out (by omega))
    have sw7 := b.size
    have ML : Hid (MadeS w7 S6.heap.size ss ga ca) := ⟨m1.own⟩
    clear m1
    clear b c
    have hssl : ss.length ≤ 5 := hss
    obtain ⟨⟨⟨qu, qs, qh, qa⟩, qn⟩, hq⟩ : ∃ x, (if rowOkB ⟨⟨eu, es, eh, ea⟩, en⟩ then putAllR ⟨⟨eu, es, eh, ea⟩, en⟩ ss else .zero) = x := ⟨_, rfl⟩
    obtain ⟨xs, hxs⟩ : ∃ x, (if rowOkB ⟨⟨eu, es, eh, ea⟩, en⟩ then putAllL ⟨⟨eu, es, eh, ea⟩, en⟩ ss else []) = x := ⟨_, rfl⟩
    have hlxs : xs.length ≤ 5 := by
      rw [← hxs]
      split
      · exact Nat.le_trans (putAllL_length _ _) (by first | (simp; omega) | simp | omega)
      · exact Nat.zero_le _
    have hPA := PutAll_spec ⟨⟨eu, es, eh, ea⟩, en⟩ _ _ ca ss w7 (madeS_strs ML.out) (by omega)
    unfold PutAllOut at hPA
    rw [hq, hxs] at hPA
    clear hq hxs
    obtain ⟨⟨k0, k1, k2, k3, k4, k5, k6, k7, k8, k9, k10, k11, k12, k13, k14⟩, _⟩ := blk15 KS.out
    go_wp2_with fail
    clear k0 k1 k2 k3 k4 k5 k6 k7 k8 k9 k10 k11 k12 k13 k14
    refine (hPA).mono ?_
    rintro e w9 ⟨gb, cb, rfl, m1, b⟩
    replace G := Lib.hid (only_below G.out b)
    replace C := Lib.hid (C.out.below (b.mono C.out.lt))
    replace R0 := Lib.hid (blk_on b R0.out)
    replace KS := Lib.hid (blk_on b KS.out)
    replace ML := Lib.hid (ML.out.below b)
    have sw9 := b.size
    have M1 := Lib.hid m1
    have hgb1 := m1.base
    clear m1 hPA
    clear b
    clear ML
    have HV : Hid (RowV.val ⟨⟨qu, qs, qh, qa⟩, qn⟩ = .agg #[.int .i64 qu, .int .i64 qs, .int .i64 qh, .int .i64 qa, .int .i64 qn]) := rfl
    rw [HV.out]
    clear HV
    obtain ⟨V10, hV10⟩ : ∃ W, w9.alloc (.cells #[.int .i64 0, .int .i64 0, .int .i64 0, .int .i64 0, .int .i64 0] 27) = W := ⟨_, rfl⟩
    replace G := Lib.hid (only_alloc G.out (.cells #[.int .i64 0, .int .i64 0, .int .i64 0, .int .i64 0, .int .i64 0] 27))
    replace C := Lib.hid (C.out.alloc (.cells #[.int .i64 0, .int .i64 0, .int .i64 0, .int .i64 0, .int .i64 0] 27))
    replace R0 := Lib.hid (alloc_blk (o := .cells #[.int .i64 0, .int .i64 0, .int .i64 0, .int .i64 0, .int .i64 0] 27) R0.out)
    replace KS := Lib.hid (alloc_blk (o := .cells #[.int .i64 0, .int .i64 0, .int .i64 0, .int .i64 0, .int .i64 0] 27) KS.out)
    replace M1 := Lib.hid (M1.out.alloc (.cells #[.int .i64 0, .int .i64 0, .int .i64 0, .int .i64 0, .int .i64 0] 27))
    have KR := Lib.hid (heap1 w9 (.cells #[.int .i64 0, .int .i64 0, .int .i64 0, .int .i64 0, .int .i64 0] 27))
    rw [hV10] at G C R0 KS M1 KR
    have sV10 : w9.heap.size < V10.heap.size := by rw [← hV10]; simp
    have KRo := KR
    have bs : Below w9.heap.size V10 (V10.setRow w9.heap.size #[.int .i64 qu, .int .i64 qs, .int .i64 qh, .int .i64 qa, .int .i64 qn]) := below_setRow (Below.refl _ _) (Nat.le_refl _) _
    have KR2 : Hid ((V10.setRow w9.heap.size #[.int .i64 qu, .int .i64 qs, .int .i64 qh, .int .i64 qa, .int .i64 qn]).heap[w9.heap.size]? = some (.cells #[.int .i64 qu, .int .i64 qs, .int .i64 qh, .int .i64 qa, .int .i64 qn] 27)) := setRow_heap _ _ _ _ _ _ KR.out
    have G2 := Lib.hid (only_from G.out (bs.mono (show w.heap.size ≤ w9.heap.size by omega)) (Nat.le_refl _))
    have C2 := Lib.hid (C.out.below (bs.mono (by omega)))
    have R02 := Lib.hid (show (V10.setRow w9.heap.size #[.int .i64 qu, .int .i64 qs, .int .i64 qh, .int .i64 qa, .int .i64 qn]).heap[_]? = _ from (setRow_other _ _ _ _ (by omega)).trans R0.out)
    have KS2 := Lib.hid (show (V10.setRow w9.heap.size #[.int .i64 qu, .int .i64 qs, .int .i64 qh, .int .i64 qa, .int .i64 qn]).heap[_]? = _ from (setRow_other _ _ _ _ (by omega)).trans KS.out)
    have M12 := Lib.hid (M1.out.heap (w' := (V10.setRow w9.heap.size #[.int .i64 qu, .int .i64 qs, .int .i64 qh, .int .i64 qa, .int .i64 qn])) (setRow_other _ _ _ _ (by have := M1.out.base; omega)))
    have sR := bs.size
    go_wp2_with (first | (refine wpList_store_row rfl 27 _ _ rfl (w9.heap.size) #[.int .i64 qu, .int .i64 qs, .int .i64 qh, .int .i64 qa, .int .i64 qn] rfl rfl 27 _ KRo.out (by kernel_rfl) rfl (by simp [Value.oneCell']) ?_))
    clear hV10 
    generalize (V10.setRow w9.heap.size #[.int .i64 qu, .int .i64 qs, .int .i64 qh, .int .i64 qa, .int .i64 qn]) = S10 at KR2 G2 C2 R02 KS2 M12 sR ⊢
    clear bs KRo KR G C R0 KS M1
    have KR := KR2
    have G := G2
    have C := C2
    have R0 := R02
    have KS := KS2
    have M1 := M12
    clear KR2 G2 C2 R02 KS2 M12
    have sSS10 : V10.heap.size ≤ S10.heap.size := sR
    clear sR
    clear KR
    obtain ⟨tn, htn0⟩ : ∃ t, intT (ss.length : Int) = t := ⟨_, rfl⟩
    have htn : tn.size ≤ 19 := by
      rw [← htn0, intT, if_neg (by omega)]
      exact (decT_size (by omega)).2
    have htn3 : (⟨#[101, 110, 100]⟩ : ByteArray).size = 3 := rfl
    obtain ⟨i0, hi, hz0, hz1, hz2⟩ := info_parts infoString
    have BT := Lib.hid (hb0.out.below (below_of_only G.out hB0 hg))
    have pL : g ∉ ([] : List Nat) := by simp <;> omega
    have pB : B0 ≤ g := by omega
    have pLB : ∀ k ∈ ([] : List Nat), B0 ≤ k := by simp <;> omega
    refine wp_region_curp (W := S10) [] pL C.out BT.out pB pLB (fun _ => True) (stays_true) (trivial) [0, 0, 0, 0, 1, 0, 2, 0, 1, 4, 1, 0, 0, 0, 2, 3, 0] [0, 1, 2, 3, 4, 5, 7, 8, 6, 9, 10, 11, 12, 13, 14, 15, 16] (by kernel_rfl) (by kernel_rfl) (by kernel_rfl) ?_
    simp only [List.map_cons, List.map_nil, List.filterMap_cons, List.filterMap_nil, List.getD_cons_zero, List.getD_cons_succ, List.getElem?_cons_zero, List.getElem?_cons_succ]
    have fk : ∀ q : In (curEnv S10 [] g A n cap pL ⟨_, _, C.out⟩ BT.out pB pLB), _ := fun q => (blk15 (q.blkc KS.out (by simp; omega))).1
    refine wpO_quiet 4 rfl (by kernel_rfl) ?_
    simp only [List.take, List.drop]
    repeat (go_big_quiet_step (fail))
    refine wpQuiet_nil ?_
    refine wpO_call (f := 34) (args := #[.int .i64 (ss.length : Int)]) (.string tn) rfl (fun w' => by simp [go_sem]) (fun w' hw _ => ?_) ?_
    · obtain ⟨hkb, i', h', c'⟩ := hw
      exact (l1Int_any (ss.length : Int) ⟨by omega, by omega⟩ w').mono fun e w'' ⟨he, b1⟩ => ⟨by rw [he, htn0], ⟨⟨b1.os, b1.tape, b1.output, b1.size, fun k hk _ => b1.block k hk⟩, i', h', c'.below (b1.mono c'.lt)⟩⟩
    simp only [Act.put, List.setIfInBounds_toArray, List.set_cons_succ, List.set_cons_zero]
    refine wpO_quiet 2 rfl (by kernel_rfl) ?_
    simp only [List.take, List.drop]
    repeat (go_big_quiet_step (fail))
    refine wpQuiet_nil ?_
    refine wpO_callx (f := 66) (args := #[.pointer (some ⟨g, 0, none⟩)]) (α := { x : List ByteArray × Nat × Nat // x.1.length ≤ 5 }) (fun x => .slice (some ⟨x.1.2.1, 0, none⟩) x.1.1.length x.1.2.2) (fun x => [x.1.2.1]) (fun x w' => MadeS w' S10.heap.size x.1.1 x.1.2.1 x.1.2.2) rfl (fun w' => by simp [go_sem]) (fun x w1 w2 hw h b => ?_) (fun G => ?_) (fun w' hw _ => ?_) (fun x hx => ?_)
    · exact h.kept b.1 (by intro e; have e1 := Option.some.inj e; have := h.base; omega)
    · obtain ⟨g, hg, hn⟩ := fresh_above S10.heap.size G
      exact ⟨⟨([], g, 0), by simp⟩, fun k hk => by simp at hk; subst hk; exact ⟨hg, hn⟩⟩
    · obtain ⟨hkb, i', h', c'⟩ := hw
      exact (l1DrawList_any _ _ A n cap i' h' hn c').mono fun e w'' ⟨ss, gb, cb, i1, h1, hs, he, m1, c1, b1⟩ => ⟨⟨(ss, gb, cb), hs⟩, he, MadeG.mono ⟨m1.own⟩ hkb.size, ⟨b1, i1, h1, c1⟩, fun k hk => by simp at hk; subst hk; exact m1.base⟩
    obtain ⟨⟨ts, gt, ct⟩, hts⟩ := x
    have hgt : S10.heap.size ≤ gt := (hx gt (by simp)).1
    dsimp only at hts ⊢
    simp only [Act.put, List.setIfInBounds_toArray, List.set_cons_succ, List.set_cons_zero]
    refine wpO_row (.cells #[.string (⟨#[101, 110, 100]⟩ ++ tn)] 9) 1 rfl (fun w' => by simp [go_sem]) fun ge mge hge => ?_
    have hge0 : S10.heap.size ≤ ge := mge
    simp only [Act.put, List.setIfInBounds_toArray, List.set_cons_succ, List.set_cons_zero]
    refine wpO_append4 (fun _ => True) _ _ 45 rfl rfl S10.heap.size 9 i0 (.string ByteArray.empty) 1 16 Tryz.underlying45 hi hz0 hz1 hz2 rfl (by decide) 1 [.string (⟨#[101, 110, 100]⟩ ++ tn)] ge 1 rfl (.inl hge0) (.inr (by simp)) ⟨gt, 0, none⟩ ts.length ct (ts.map Value.string) rfl (by simp) (by intro u hu; obtain ⟨t, _, rfl⟩ := List.mem_map.1 hu; rfl) (by unfold maxLen; omega) (by omega) (Nat.le_refl _) (fun k hk => .inl hk) (fun w' hw hF => ⟨trivial, own_one hF.2 hge0, news_strs hF.1.2⟩) stays_true (away_true _) fun gl cl hgl => ?_
    simp only [Act.put, List.setIfInBounds_toArray, List.set_cons_succ, List.set_cons_zero]
    obtain ⟨⟨⟨ru, rs, rh, ra⟩, rn⟩, hr⟩ : ∃ x, (if rowOkB ⟨⟨fu, fs, fh, fa⟩, fn⟩ then putAllR ⟨⟨fu, fs, fh, fa⟩, fn⟩ ((⟨#[101, 110, 100]⟩ ++ tn) :: ts) else .zero) = x := ⟨_, rfl⟩
    obtain ⟨ys, hys⟩ : ∃ x, (if rowOkB ⟨⟨fu, fs, fh, fa⟩, fn⟩ then putAllL ⟨⟨fu, fs, fh, fa⟩, fn⟩ ((⟨#[101, 110, 100]⟩ ++ tn) :: ts) else []) = x := ⟨_, rfl⟩
    have hlys : ys.length ≤ 6 := by
      rw [← hys]
      split
      · exact Nat.le_trans (putAllL_length _ _) (by first | (simp; omega) | simp | omega)
      · exact Nat.zero_le _
    refine wpO_callx (f := 67) (args := #[.agg #[.int .i64 fu, .int .i64 fs, .int .i64 fh, .int .i64 fa, .int .i64 fn], .slice (some ⟨gl, 0, none⟩) (1 + ts.length) cl]) (α := Nat × Nat) (fun x => .tuple #[.agg #[.int .i64 ru, .int .i64 rs, .int .i64 rh, .int .i64 ra, .int .i64 rn], .slice (some ⟨x.1, 0, none⟩) ys.length x.2]) (fun x => [x.1]) (fun x w' => MadeB w' S10.heap.size ys x.1 x.2) rfl (fun w' => by simp [go_sem]) (fun x w1 w2 hw h b => ?_) (fun G => ?_) (fun w' hw hF => ?_) (fun x hx => ?_)
    · exact h.kept b.1 (by intro e; have e1 := Option.some.inj e; have := h.base; omega)
    · obtain ⟨g, hg, hn⟩ := fresh_above S10.heap.size G
      exact ⟨(g, 0), fun k hk => by simp at hk; subst hk; exact ⟨hg, hn⟩⟩
    · obtain ⟨hkb, i', h', c'⟩ := hw
      have h1 := PutAll_spec ⟨⟨fu, fs, fh, fa⟩, fn⟩ _ _ cl _ w' (by have h9 := madeS_strs (own_cons hF.2); rw [List.length_cons, Nat.add_comm] at h9; exact h9) (by omega)
      unfold PutAllOut at h1
      rw [hr, hys] at h1
      exact h1.mono fun e w'' ⟨gb, cb, he, m1, b1⟩ => ⟨(gb, cb), he, m1.mono hkb.size, ⟨⟨b1.os, b1.tape, b1.output, b1.size, fun k hk _ => b1.block k hk⟩, i', h', c'.below (b1.mono c'.lt)⟩, fun k hk => by simp at hk; subst hk; exact m1.base⟩
    obtain ⟨gp, cp⟩ := x
    have hgp : S10.heap.size ≤ gp := (hx gp (by simp)).1
    dsimp only
    clear hr hys
    simp only [Act.put, List.setIfInBounds_toArray, List.set_cons_succ, List.set_cons_zero]
    refine wpO_quiet 3 rfl (by kernel_rfl) ?_
    simp only [List.take, List.drop]
    repeat (go_big_quiet_step (fail))
    refine wpQuiet_nil ?_
    refine wpO_alloc (.cells #[.int .i64 0, .int .i64 0, .int .i64 0, .int .i64 0, .int .i64 0] 27) rfl (fun w' => by simp [go_sem]) fun g6 mg6 hn6 => ?_
    have hg6 : S10.heap.size ≤ g6 := mg6
    have hne6 : gp ≠ g6 := fun e => hn6 (by rw [← e]; simp)
    simp only [Act.put, List.setIfInBounds_toArray, List.set_cons_succ, List.set_cons_zero]
    refine wpO_store (g := g6) (t := 27) (old := #[.int .i64 0, .int .i64 0, .int .i64 0, .int .i64 0, .int .i64 0]) (fun w' => MadeB w' S10.heap.size ys gp cp) #[.int .i64 ru, .int .i64 rs, .int .i64 rh, .int .i64 ra, .int .i64 rn] rfl rfl rfl rfl (Env.own _ mg6) (by kernel_rfl) rfl rfl (fun w' h => ⟨h.1.2, h.2⟩) (fun w1 w2 hw h b => h.kept b.1 (by intro e; have e1 := Option.some.inj e; have := h.base; omega)) (fun w1 w2 hw h => h.heap (hw gp h.base.2 hne6)) ?_
    simp only [Act.put]
    refine wpO_quiet 1 rfl (by kernel_rfl) ?_
    simp only [List.take, List.drop]
    repeat (go_big_quiet_step (fail))
    refine wpQuiet_nil ?_
    refine wpO_nil ?_
    rintro w11 ⟨b11, i11, h11, c11⟩ ⟨H4, _⟩
    have b := b11.only
    have c := c11
    clear fk b11
    replace G := Lib.hid (only_trans G.out b)
    replace C := Lib.hid c
    replace R0 := Lib.hid (blk_kept b R0.out (by omega))
    replace KS := Lib.hid (blk_kept b KS.out (by omega))
    replace M1 := Lib.hid (M1.out.kept b (by intro e; have e1 := Option.some.inj e; omega))
    have M2 := Lib.hid H4
    have hgp2 := H4.base
    have sw11 := b.size
    clear b c c11 H4
    go_wp2
    obtain ⟨base, hbase⟩ : ∃ x, w7.heap.size = x := ⟨_, rfl⟩
    have M1b : Hid (MadeB w11 base xs gb cb) := hbase ▸ M1.out
    obtain ⟨L, hL⟩ : ∃ L, L = w.heap.size :: List.range' base (w11.heap.size - base) := ⟨_, rfl⟩
    have hLm : ∀ k, base ≤ k → w11.heap.size ≤ k ∨ k ∈ L := fun k hk => by
      rcases Nat.lt_or_ge k w11.heap.size with h | h
      · exact .inr (by rw [hL]; exact List.mem_cons_of_mem _ (List.mem_range'_1.2 ⟨hk, by omega⟩))
      · exact .inl h
    have hLr : w.heap.size ∈ L := by rw [hL]; exact List.mem_cons_self
    have hLn : w5.heap.size ∉ L := fun h => by
      rw [hL] at h
      rcases List.mem_cons.1 h with h | h
      · omega
      · have := (List.mem_range'_1.1 h).1; omega
    have hLg : ∀ k ∈ L, w.heap.size ≤ k := fun k h => by
      rw [hL] at h
      rcases List.mem_cons.1 h with h | h
      · omega
      · have := (List.mem_range'_1.1 h).1; omega
    clear hL
    obtain ⟨i1, by1, hi1, hy0, hy1, hy2, hby⟩ := infoBoxE
    refine wp_region_own (W := w11) L (fun w' => w'.heap[w.heap.size]? = some (.cells #[.int .i64 0, .int .i64 0, .int .i64 0, .int .i64 0, .int .i64 0, .int .i64 0, .int .i64 0, .int .i64 0, .int .i64 0, .int .i64 0, .int .i64 0, .int .i64 0, .int .i64 0, .int .i64 0, .slice none 0 0] 30) ∧ MadeB w' base xs gb cb ∧ MadeB w' base ys gp cp) (stays_and (stays_blk (E := plainEnv w11 L) (.inr hLr) _) (stays_and (fun w1 w2 hw h b => h.below b) (fun w1 w2 hw h b => h.below b))) ⟨R0.out, M1b.out.heap rfl, (M2.out.mono (by omega)).heap rfl⟩ [0, 0, 0, 3, 3, 0] (by kernel_rfl) (by kernel_rfl) (by kernel_rfl) ?_
    refine wpO_load_row rfl 30 _ rfl (w5.heap.size) rfl 30 _ (0, 0) _ (fun q => q.block KS.out hLn) Tryz.underlying30 rfl (by kernel_rfl) ?_
    simp only [Act.put, List.setIfInBounds_toArray, List.set_cons_succ, List.set_cons_zero]
    refine wpO_quiet 2 rfl (by kernel_rfl) ?_
    simp only [List.take, List.drop]
    repeat (go_big_quiet_step (fail))
    refine wpQuiet_nil ?_
    refine wpO_append0 (fun w' => w'.heap[w.heap.size]? = some (.cells #[.int .i64 0, .int .i64 0, .int .i64 0, .int .i64 0, .int .i64 0, .int .i64 0, .int .i64 0, .int .i64 0, .int .i64 0, .int .i64 0, .int .i64 0, .int .i64 0, .int .i64 0, .int .i64 0, .slice none 0 0] 30)) _ _ 52 rfl rfl base 32 i1 BoxV.zero.val 7 by1 Tryz.underlying52 hi1 hy0 hy1 hy2 rfl (by decide) xs.length (xs.flatMap BoxV.cells) gb cb rfl (hLm _ M1b.out.base.1) ⟨gp, 0, none⟩ ys.length cp (ys.flatMap BoxV.cells) rfl (cells_flat _) (by intro u hu; obtain ⟨b, _, hb⟩ := List.mem_flatMap.1 hu; exact cells_one b u hb) (by unfold maxLen; omega) (Nat.le_trans (Nat.mul_le_mul (by omega : xs.length + ys.length ≤ 1048576) hby) (by decide)) (by show base ≤ w11.heap.size; omega) hLm (fun w' hw hF => ⟨hF.1, hF.2.1.own, news_boxes hF.2.2⟩) (stays_blk (E := plainEnv w11 L) (.inr hLr) _) (away_blk (by have := M1b.out.base; omega) _) fun gn cn hgn => ?_
    simp only [Act.put, List.setIfInBounds_toArray, List.set_cons_succ, List.set_cons_zero]
    refine wpO_store (g := w.heap.size) (t := 30) (old := #[.int .i64 0, .int .i64 0, .int .i64 0, .int .i64 0, .int .i64 0, .int .i64 0, .int .i64 0, .int .i64 0, .int .i64 0, .int .i64 0, .int .i64 0, .int .i64 0, .int .i64 0, .int .i64 0, .slice none 0 0]) (fun w' => MadeB w' base (xs ++ ys) gn cn) #[.int .i64 st, .int .i64 sh, .int .i64 sd, .int .i64 sp, .int .i64 eu, .int .i64 es, .int .i64 eh, .int .i64 ea, .int .i64 en, .int .i64 fu, .int .i64 fs, .int .i64 fh, .int .i64 fa, .int .i64 fn, .slice none 0 0] rfl rfl rfl rfl (.inr hLr) (by kernel_rfl) rfl rfl (fun w' h => ⟨own_boxes h.2, h.1⟩) (fun w1 w2 hw h b => h.below b) (fun w1 w2 hw h => h.heap (hw gn h.base.2 (by omega))) ?_
    simp only [Act.put]
    refine wpO_quiet 1 rfl (by kernel_rfl) ?_
    simp only [List.take, List.drop]
    repeat (go_big_quiet_step (fail))
    refine wpQuiet_nil ?_
    refine wpO_nil ?_
    rintro w12 b12 ⟨H5, H6⟩
    have HM := Lib.hid H5
    have HR := Lib.hid H6
    have hKB : Hid (Below w.heap.size w11 w12) := KeptBut.below b12 (by omega) hLg
    clear b12 H5 H6
    go_wp2
    exact row_ret2 (r := w.heap.size) (cs := #[.int .i64 st, .int .i64 sh, .int .i64 sd, .int .i64 sp, .int .i64 eu, .int .i64 es, .int .i64 eh, .int .i64 ea, .int .i64 en, .int .i64 fu, .int .i64 fs, .int .i64 fh, .int .i64 fa, .int .i64 fn, .slice none 0 0]) rfl rfl rfl HR.out Tryz.underlying30 rfl (by kernel_rfl) rfl ⟨⟨st, sh, sd, sp, ⟨⟨eu, es, eh, ea⟩, en⟩, ⟨⟨fu, fs, fh, fa⟩, fn⟩⟩, none, 0, 0, [], xs ++ ys, gn, cn, i11, h11, by omega, by rw [List.length_append]; omega, by rw [List.length_append]; rfl, .inl ⟨rfl, rfl, rfl, rfl⟩, HM.out.mono (by omega), C.out.below (hKB.out.mono (by omega)), only_from G.out hKB.out (Nat.le_refl _)⟩

end Go.Proofs.YtchdmmlkgglmcaaGreatDoor.Tx
namespace Go.Proofs.YtchdmmlkgglmcaaGreatDoor.Tx
open Go.RowKit

theorem box_cells {w : World} {B g c k : Nat} {bs : List BoxV} {x : BoxV} (h : MadeB w B bs g c) (hk : bs[k]? = some x) :
    w.cell? ⟨g, k * 7, none⟩ = some (.int .i64 x.k.u) ∧ w.cell? ⟨g, k * 7 + 1, none⟩ = some (.int .i64 x.k.s) ∧ w.cell? ⟨g, k * 7 + 2, none⟩ = some (.int .i64 x.k.h) ∧ w.cell? ⟨g, k * 7 + 3, none⟩ = some (.int .i64 x.k.a) ∧ w.cell? ⟨g, k * 7 + 4, none⟩ = some (.int .i64 x.no) ∧ w.cell? ⟨g, k * 7 + 5, none⟩ = some (.string x.t) ∧ w.cell? ⟨g, k * 7 + 6, none⟩ = some (.bool x.sp) := by
  have hl := (List.getElem?_eq_some_iff.1 hk).1
  have key : ∀ i, i < 7 → w.cell? ⟨g, k * 7 + i, none⟩ = (BoxV.cells x)[i]? := fun i hi => by
    have h1 := flat_get bs k i hl hi
    rw [hk, Option.getD_some] at h1
    have h2 : (BoxV.cells x)[i]? = some ((BoxV.cells x)[i]'(by simpa [BoxV.cells] using hi)) := List.getElem?_eq_getElem _
    rw [h2]
    exact h.cell (h1.trans h2)
  exact ⟨key 0 (by omega), key 1 (by omega), key 2 (by omega), key 3 (by omega), key 4 (by omega), key 5 (by omega), key 6 (by omega)⟩
theorem made_cells (n : Nat) : (madeCells #[.string ⟨#[]⟩, .bool false] (n * 2)).toList = (List.replicate n WordV.zero).flatMap Cells.cells := by
  refine List.ext_getElem? fun i => ?_
  by_cases hi : i < n * 2
  · have h1 := flat_at (List.replicate n WordV.zero) (i / 2) WordV.zero (by rw [List.getElem?_replicate, if_pos (by omega)]) (i % 2) (Nat.mod_lt _ (by decide))
    have e : i / 2 * Cells.sz WordV + i % 2 = i := by show i / 2 * 2 + i % 2 = i; omega
    rw [e] at h1
    rw [h1]
    have h2 : i % 2 = 0 ∨ i % 2 = 1 := by omega
    rcases h2 with h2 | h2 <;> simp [madeCells, hi, h2] <;> rfl
  · rw [List.getElem?_eq_none (by simp [size_madeCells]; omega), List.getElem?_eq_none (by rw [flat_len, List.length_replicate]; show n * 2 ≤ i; omega)]
theorem make_words (n : Nat) (k : Int) (hk : k = (n : Int)) (hn : n ≤ 1000) (w : World) : (Instr.makeSlice 28 (.int .i64 k) (.int .i64 k)).run Tryz.prog w = .ok (.slice (some ⟨w.heap.size, 0, none⟩) n n) (w.alloc (.cells (madeCells #[.string ⟨#[]⟩, .bool false] (n * 2)) 49)) := by
  obtain ⟨i, by0, hi, hz0, hz1, hz2, hby⟩ := infoWordE
  subst hk
  have hb : (i.bytes : Int) * (n : Int) ≤ 281474976710656 := by
    rw [hz2]
    have : by0 * n ≤ 200 * 1000 := Nat.mul_le_mul hby hn
    omega
  have := run_make (P := Tryz.prog) w 28 49 i _ Tryz.underlying28 hi hz0 .i64 .i64 n n (by omega) (Int.le_refl _) hb (by omega)
  have hzc : WordV.zero.val.cells = #[.string ⟨#[]⟩, .bool false] := rfl
  rw [hz1, hzc] at this
  simpa using this
theorem made_words (n : Nat) (hn : n ≤ 1000) (w : World) : MadeE (w.alloc (.cells (madeCells #[.string ⟨#[]⟩, .bool false] (n * 2)) 49)) w.heap.size 49 (List.replicate n WordV.zero) w.heap.size n := by
  have hl : ((List.replicate n WordV.zero).flatMap Cells.cells).length = n * 2 := by rw [flat_len, List.length_replicate]; rfl
  refine ⟨⟨by rw [flat_len], .inr ⟨w.heap.size, n, _, by rw [List.length_replicate], Nat.le_refl _, heap1 w _, by rw [List.length_replicate]; exact Nat.le_refl _, by unfold maxLen; omega, by rw [size_madeCells]; rfl, ?_⟩⟩⟩
  rw [made_cells, List.length_replicate]
  exact List.take_of_length_le (by rw [hl]; exact Nat.le_refl _)

set_option maxRecDepth 100000 in
set_option maxHeartbeats 64000000 in
theorem l14DrawAny_any (w : World) (g : Nat) (A : Option Addr) (n cap : Nat) (i h : Int) (hn : n ≤ 4096) (B0 : Nat) (hB0 : B0 ≤ g) (hb : BytesAt w B0 A n) (c : Cur w g A n cap i h) :
    Calls Tryz.prog 21 #[.pointer (some ⟨g, 0, none⟩)] w (SeatDrawn w g A n cap) := by
  have hg := c.lt
  have C := Lib.hid c
  clear c
  have G := Lib.hid (only_refl w g)
  have hb0 := Lib.hid hb
  clear hb
  obtain ⟨V0, hV0⟩ : ∃ W, w.alloc (.cells #[.int .i64 0, .int .i64 0, .int .i64 0, .int .i64 0, .int .i64 0, .int .i64 0, .int .i64 0, .int .i64 0, .int .i64 0, .int .i64 0, .int .i64 0, .int .i64 0, .int .i64 0, .int .i64 0, .slice none 0 0] 30) = W := ⟨_, rfl⟩
  replace G := Lib.hid (only_alloc G.out (.cells #[.int .i64 0, .int .i64 0, .int .i64 0, .int .i64 0, .int .i64 0, .int .i64 0, .int .i64 0, .int .i64 0, .int .i64 0, .int .i64 0, .int .i64 0, .int .i64 0, .int .i64 0, .int .i64 0, .slice none 0 0] 30))
  replace C := Lib.hid (C.out.alloc (.cells #[.int .i64 0, .int .i64 0, .int .i64 0, .int .i64 0, .int .i64 0, .int .i64 0, .int .i64 0, .int .i64 0, .int .i64 0, .int .i64 0, .int .i64 0, .int .i64 0, .int .i64 0, .int .i64 0, .slice none 0 0] 30))
  have R0 := Lib.hid (heap1 w (.cells #[.int .i64 0, .int .i64 0, .int .i64 0, .int .i64 0, .int .i64 0, .int .i64 0, .int .i64 0, .int .i64 0, .int .i64 0, .int .i64 0, .int .i64 0, .int .i64 0, .int .i64 0, .int .i64 0, .slice none 0 0] 30))
  rw [hV0] at G C R0
  have sV0 : w.heap.size < V0.heap.size := by rw [← hV0]; simp
  go_enter Tryz.func21, Tryz.ntmps21
  go_wp2_with fail
  clear hV0
  have sB0 : V0.heap.size = V0.heap.size := rfl
  have BT := Lib.hid (hb0.out.below (below_of_only G.out hB0 hg))
  refine (l14Draw_any _ _ A n cap i h hn _ hB0 BT.out C.out).mono ?_
  rintro e w1 ⟨⟨st, sh, sd, sp, ⟨⟨eu, es, eh, ea⟩, en⟩, ⟨⟨fu, fs, fh, fa⟩, fn⟩⟩, B, m, mc, l, bs, gb, cb, i1, h1, hm, hbs, rfl, ho, mb, c, b⟩
  replace G := Lib.hid (only_trans G.out b)
  replace C := Lib.hid c
  replace R0 := Lib.hid (blk_kept b R0.out (by omega))
  have sw1 := b.size
  have LG0 := Lib.hid ho
  have M0 := Lib.hid mb
  have hgb := mb.base
  have hlLG : ∀ k, blkA B = some k → V0.heap.size ≤ k ∧ k < w1.heap.size := fun k e => ho.lt e
  clear ho mb
  clear BT
  clear b c
  have LG := LG0
  have M := M0
  clear LG0 M0
  have HV : Hid (SeatV.val ⟨st, sh, sd, sp, ⟨⟨eu, es, eh, ea⟩, en⟩, ⟨⟨fu, fs, fh, fa⟩, fn⟩⟩ B m mc = .agg #[.int .i64 st, .int .i64 sh, .int .i64 sd, .int .i64 sp, .int .i64 eu, .int .i64 es, .int .i64 eh, .int .i64 ea, .int .i64 en, .int .i64 fu, .int .i64 fs, .int .i64 fh, .int .i64 fa, .int .i64 fn, .slice B m mc]) := rfl
  rw [HV.out]
  clear HV
  have hjl : ∀ j, blkA B = some j → j < w1.heap.size := fun j e => (hlLG j e).2
  obtain ⟨V2, hV2⟩ : ∃ W, w1.alloc (.cells #[.int .i64 0, .int .i64 0, .int .i64 0, .int .i64 0, .int .i64 0, .int .i64 0, .int .i64 0, .int .i64 0, .int .i64 0, .int .i64 0, .int .i64 0, .int .i64 0, .int .i64 0, .int .i64 0, .slice none 0 0] 30) = W := ⟨_, rfl⟩
  replace G := Lib.hid (only_alloc G.out (.cells #[.int .i64 0, .int .i64 0, .int .i64 0, .int .i64 0, .int .i64 0, .int .i64 0, .int .i64 0, .int .i64 0, .int .i64 0, .int .i64 0, .int .i64 0, .int .i64 0, .int .i64 0, .int .i64 0, .slice none 0 0] 30))
  replace C := Lib.hid (C.out.alloc (.cells #[.int .i64 0, .int .i64 0, .int .i64 0, .int .i64 0, .int .i64 0, .int .i64 0, .int .i64 0, .int .i64 0, .int .i64 0, .int .i64 0, .int .i64 0, .int .i64 0, .int .i64 0, .int .i64 0, .slice none 0 0] 30))
  replace R0 := Lib.hid (alloc_blk (o := .cells #[.int .i64 0, .int .i64 0, .int .i64 0, .int .i64 0, .int .i64 0, .int .i64 0, .int .i64 0, .int .i64 0, .int .i64 0, .int .i64 0, .int .i64 0, .int .i64 0, .int .i64 0, .int .i64 0, .slice none 0 0] 30) R0.out)
  replace LG := Lib.hid (LG.out.on ((Below.refl _ _).alloc (Nat.le_refl _) (.cells #[.int .i64 0, .int .i64 0, .int .i64 0, .int .i64 0, .int .i64 0, .int .i64 0, .int .i64 0, .int .i64 0, .int .i64 0, .int .i64 0, .int .i64 0, .int .i64 0, .int .i64 0, .int .i64 0, .slice none 0 0] 30)))
  replace M := Lib.hid (M.out.alloc (.cells #[.int .i64 0, .int .i64 0, .int .i64 0, .int .i64 0, .int .i64 0, .int .i64 0, .int .i64 0, .int .i64 0, .int .i64 0, .int .i64 0, .int .i64 0, .int .i64 0, .int .i64 0, .int .i64 0, .slice none 0 0] 30))
  have KS := Lib.hid (heap1 w1 (.cells #[.int .i64 0, .int .i64 0, .int .i64 0, .int .i64 0, .int .i64 0, .int .i64 0, .int .i64 0, .int .i64 0, .int .i64 0, .int .i64 0, .int .i64 0, .int .i64 0, .int .i64 0, .int .i64 0, .slice none 0 0] 30))
  rw [hV2] at G C R0 LG M KS
  have sV2 : w1.heap.size < V2.heap.size := by rw [← hV2]; simp
  have KSo := KS
  have bs : Below w1.heap.size V2 (V2.setRow w1.heap.size #[.int .i64 st, .int .i64 sh, .int .i64 sd, .int .i64 sp, .int .i64 eu, .int .i64 es, .int .i64 eh, .int .i64 ea, .int .i64 en, .int .i64 fu, .int .i64 fs, .int .i64 fh, .int .i64 fa, .int .i64 fn, .slice B m mc]) := below_setRow (Below.refl _ _) (Nat.le_refl _) _
  have KS2 : Hid ((V2.setRow w1.heap.size #[.int .i64 st, .int .i64 sh, .int .i64 sd, .int .i64 sp, .int .i64 eu, .int .i64 es, .int .i64 eh, .int .i64 ea, .int .i64 en, .int .i64 fu, .int .i64 fs, .int .i64 fh, .int .i64 fa, .int .i64 fn, .slice B m mc]).heap[w1.heap.size]? = some (.cells #[.int .i64 st, .int .i64 sh, .int .i64 sd, .int .i64 sp, .int .i64 eu, .int .i64 es, .int .i64 eh, .int .i64 ea, .int .i64 en, .int .i64 fu, .int .i64 fs, .int .i64 fh, .int .i64 fa, .int .i64 fn, .slice B m mc] 30)) := setRow_heap _ _ _ _ _ _ KS.out
  have G2 := Lib.hid (only_from G.out (bs.mono (show w.heap.size ≤ w1.heap.size by omega)) (Nat.le_refl _))
  have C2 := Lib.hid (C.out.below (bs.mono (by omega)))
  have R02 := Lib.hid (show (V2.setRow w1.heap.size #[.int .i64 st, .int .i64 sh, .int .i64 sd, .int .i64 sp, .int .i64 eu, .int .i64 es, .int .i64 eh, .int .i64 ea, .int .i64 en, .int .i64 fu, .int .i64 fs, .int .i64 fh, .int .i64 fa, .int .i64 fn, .slice B m mc]).heap[_]? = _ from (setRow_other _ _ _ _ (by omega)).trans R0.out)
  have LG2 := Lib.hid (LG.out.heap (w' := (V2.setRow w1.heap.size #[.int .i64 st, .int .i64 sh, .int .i64 sd, .int .i64 sp, .int .i64 eu, .int .i64 es, .int .i64 eh, .int .i64 ea, .int .i64 en, .int .i64 fu, .int .i64 fs, .int .i64 fh, .int .i64 fa, .int .i64 fn, .slice B m mc])) (fun k e => setRow_other _ _ _ _ (by have := hlLG k e; omega)))
  have M2 := Lib.hid (M.out.heap (w' := (V2.setRow w1.heap.size #[.int .i64 st, .int .i64 sh, .int .i64 sd, .int .i64 sp, .int .i64 eu, .int .i64 es, .int .i64 eh, .int .i64 ea, .int .i64 en, .int .i64 fu, .int .i64 fs, .int .i64 fh, .int .i64 fa, .int .i64 fn, .slice B m mc])) (setRow_other _ _ _ _ (by have := M.out.base; omega)))
  have sR := bs.size
  go_wp2_with (first | (refine wpList_store_row rfl 30 _ _ rfl (w1.heap.size) #[.int .i64 st, .int .i64 sh, .int .i64 sd, .int .i64 sp, .int .i64 eu, .int .i64 es, .int .i64 eh, .int .i64 ea, .int .i64 en, .int .i64 fu, .int .i64 fs, .int .i64 fh, .int .i64 fa, .int .i64 fn, .slice B m mc] rfl rfl 30 _ KSo.out (by kernel_rfl) rfl (by simp [Value.oneCell']) ?_))
  clear hV2 
  generalize (V2.setRow w1.heap.size #[.int .i64 st, .int .i64 sh, .int .i64 sd, .int .i64 sp, .int .i64 eu, .int .i64 es, .int .i64 eh, .int .i64 ea, .int .i64 en, .int .i64 fu, .int .i64 fs, .int .i64 fh, .int .i64 fa, .int .i64 fn, .slice B m mc]) = S3 at KS2 G2 C2 R02 LG2 M2 sR ⊢
  clear bs KSo KS G C R0 LG M
  have KS := KS2
  have G := G2
  have C := C2
  have R0 := R02
  have LG := LG2
  have M := M2
  clear KS2 G2 C2 R02 LG2 M2
  have sSS3 : V2.heap.size ≤ S3.heap.size := sR
  clear sR
  have hbn : (0 : Int) ≤ (bs.length : Int) := by omega
  refine (l1Below_any _ g A n cap i1 h1 ((bs.length : Int) + 1) hn (by omega) (by omega) C.out).mono ?_
  rintro e w4 ⟨n0, i4, h4, ⟨hn0, hn1⟩, rfl, c, b⟩
  replace G := Lib.hid (only_trans G.out b)
  replace C := Lib.hid c
  replace R0 := Lib.hid (blk_kept b R0.out (by omega))
  replace LG := Lib.hid (LG.out.kept b (fun k e e2 => by have h1 := LG.out.lt e; have h2 := Option.some.inj e2; omega))
  replace M := Lib.hid (M.out.kept b (by intro e; have e1 := Option.some.inj e; omega))
  replace KS := Lib.hid (blk_kept b KS.out (by omega))
  have sw4 := b.size
  clear b c
  have hjk : ∀ j, blkA B = some j → V0.heap.size ≤ j ∧ j ≠ w1.heap.size := fun j e => ⟨(hlLG j e).1, by have := (hlLG j e).2; omega⟩
  have LGm : Hid (OutE w4 V0.heap.size 49 B m mc l) := LG
  go_wp2
  go_loopw [7] (fun i wr => ∃ (k : Nat) (s : SeatV) (B : Option Addr) (m mc : Nat) (l : List WordV), (k : Int) ≤ n0 ∧ i = .int .i64 k ∧ m ≤ 100 ∧ (∀ j, blkA B = some j → V0.heap.size ≤ j ∧ j ≠ w1.heap.size) ∧ Hid (OutE wr V0.heap.size 49 B m mc l) ∧ Hid (MadeB wr V0.heap.size bs gb cb) ∧ Hid (wr.heap[w.heap.size]? = some (.cells #[.int .i64 0, .int .i64 0, .int .i64 0, .int .i64 0, .int .i64 0, .int .i64 0, .int .i64 0, .int .i64 0, .int .i64 0, .int .i64 0, .int .i64 0, .int .i64 0, .int .i64 0, .int .i64 0, .slice none 0 0] 30)) ∧ Hid (wr.heap[w1.heap.size]? = some (.cells (s.cells B m mc).toArray 30)) ∧ Hid (Cur wr g A n cap i4 h4) ∧ Hid (w.grownBy wr (some g)) ∧ w4.heap.size ≤ wr.heap.size) (fun i _ => n0.toNat - (intOf i).toNat)
  case atStart => exact ⟨0, ⟨st, sh, sd, sp, ⟨⟨eu, es, eh, ea⟩, en⟩, ⟨⟨fu, fs, fh, fa⟩, fn⟩⟩, B, m, mc, l, hn0, rfl, hm, hjk, LG, M, R0, KS, C, G, Nat.le_refl _⟩
  case round =>
    clear LG M R0 KS C G LGm hjk hm hjl hlLG
    obtain ⟨k, ⟨st, sh, sd, sp, ⟨⟨eu, es, eh, ea⟩, en⟩, ⟨⟨fu, fs, fh, fa⟩, fn⟩⟩, B, m, mc, l, hk, rfl, hm, hjk, LG, M, R0, KS, C, G, hsz⟩ := hrel
    have sC := C.out.lt
    have KS' : Hid (wr.heap[w1.heap.size]? = some (.cells #[.int .i64 st, .int .i64 sh, .int .i64 sd, .int .i64 sp, .int .i64 eu, .int .i64 es, .int .i64 eh, .int .i64 ea, .int .i64 en, .int .i64 fu, .int .i64 fs, .int .i64 fh, .int .i64 fa, .int .i64 fn, .slice B m mc] 30)) := KS
    clear KS
    have KS := KS'
    clear KS'
    have hk0 : (0 : Int) ≤ (k : Int) := by omega
    by_cases hlt : (k : Int) < n0
    · have hkl : k < bs.length := by omega
      have hkn : (k : Int) < (bs.length : Int) := by omega
      obtain ⟨⟨⟨xu, xs, xh, xa⟩, xn, xt, xp⟩, hx⟩ : ∃ x, bs[k]? = some x := ⟨_, List.getElem?_eq_getElem hkl⟩
      go_wp2
      refine wp_region_own (W := wr) [w1.heap.size] (fun w' => w'.heap[w1.heap.size]? = some (.cells #[.int .i64 st, .int .i64 sh, .int .i64 sd, .int .i64 sp, .int .i64 eu, .int .i64 es, .int .i64 eh, .int .i64 ea, .int .i64 en, .int .i64 fu, .int .i64 fs, .int .i64 fh, .int .i64 fa, .int .i64 fn, .slice B m mc] 30)) (stays_blk (E := plainEnv wr [w1.heap.size]) (.inr (by simp)) _) KS.out [3, 0, 0, 0, 0, 1, 0, 0, 0, 3] (by kernel_rfl) (by kernel_rfl) (by kernel_rfl) ?_
      have fb : ∀ q : In (plainEnv wr [w1.heap.size]), _ := fun q => box_cells (M.out.heap (w' := q.w) (q.hc.block _ M.out.base.2 (by simp; omega))) hx
      dsimp only at fb
      refine wpO_read_row rfl 30 _ rfl (w1.heap.size) rfl 30 _ (0, 0) _ (stays_blk (E := plainEnv wr [w1.heap.size]) (.inr (by simp)) _) (fun w' hw hF => hF) Tryz.underlying30 rfl (by kernel_rfl) ?_
      simp only [Act.put, List.setIfInBounds_toArray, List.set_cons_succ, List.set_cons_zero]
      refine wpO_quiet 4 rfl (by kernel_rfl) ?_
      simp only [List.take, List.drop]
      repeat (go_big_quiet_step (fail))
      refine wpQuiet_nil ?_
      obtain ⟨⟨rst, rsh, rsd, rsp, ⟨⟨reu, res, reh, rea⟩, ren⟩, ⟨⟨rfu, rfs, rfh, rfa⟩, rfn⟩⟩, hr⟩ : ∃ o, hearS ⟨st, sh, sd, sp, ⟨⟨eu, es, eh, ea⟩, en⟩, ⟨⟨fu, fs, fh, fa⟩, fn⟩⟩ m ⟨⟨xu, xs, xh, xa⟩, xn, xt, xp⟩ = o := ⟨_, rfl⟩
      obtain ⟨y, hy⟩ : ∃ o, hearC ⟨st, sh, sd, sp, ⟨⟨eu, es, eh, ea⟩, en⟩, ⟨⟨fu, fs, fh, fa⟩, fn⟩⟩ m ⟨⟨xu, xs, xh, xa⟩, xn, xt, xp⟩ = o := ⟨_, rfl⟩
      obtain ⟨ol, hol⟩ : ∃ o, hearL ⟨st, sh, sd, sp, ⟨⟨eu, es, eh, ea⟩, en⟩, ⟨⟨fu, fs, fh, fa⟩, fn⟩⟩ l ⟨⟨xu, xs, xh, xa⟩, xn, xt, xp⟩ = o := ⟨_, rfl⟩
      have hlen : ol.length ≤ 100 := by rw [← hol]; exact hearL_small _ _ _ _ (by rw [LG.out.len]; exact hm) (by omega)
      refine wpO_callx (f := 10) (args := #[.agg #[.int .i64 st, .int .i64 sh, .int .i64 sd, .int .i64 sp, .int .i64 eu, .int .i64 es, .int .i64 eh, .int .i64 ea, .int .i64 en, .int .i64 fu, .int .i64 fs, .int .i64 fh, .int .i64 fa, .int .i64 fn, .slice B m mc], .agg #[.int .i64 xu, .int .i64 xs, .int .i64 xh, .int .i64 xa, .int .i64 xn, .string xt, .bool xp]]) (α := Option Addr × Nat) (fun z => .tuple #[.agg #[.int .i64 rst, .int .i64 rsh, .int .i64 rsd, .int .i64 rsp, .int .i64 reu, .int .i64 res, .int .i64 reh, .int .i64 rea, .int .i64 ren, .int .i64 rfu, .int .i64 rfs, .int .i64 rfh, .int .i64 rfa, .int .i64 rfn, .slice z.1 ol.length z.2], .int .i64 y]) (fun z => (blkA z.1).toList) (fun z w' => OutE w' wr.heap.size 49 z.1 ol.length z.2 ol) rfl (fun w' => by simp [go_sem]) (fun z w1 w2 hw h b => h.on b) (fun G => ⟨(none, 0), fun k hk => by cases hk⟩) (fun w' hw hF => ?_) (fun z hz => ?_)
      · have h1 := Hears_spec ⟨st, sh, sd, sp, ⟨⟨eu, es, eh, ea⟩, en⟩, ⟨⟨fu, fs, fh, fa⟩, fn⟩⟩ B m mc l ⟨⟨xu, xs, xh, xa⟩, xn, xt, xp⟩ w' ((LG.out.heap (fun j e => hw.block j (LG.out.lt e).2 (by have := (hjk j e).2; simp; exact this))).elts) (fun e => by rcases LG.out with ⟨_, _, h, _⟩ | ⟨g, h, _⟩; exact h; rw [h] at e; cases e) (by omega)
        rw [hr, hy, hol] at h1
        exact h1.mono fun e w'' ⟨B, m2, c, he, ho, b1⟩ => by
          have hm2 := ho.out.len
          subst hm2
          exact ⟨(B, c), he, ho.out.mono hw.size, b1, fun k hk => by have := ho.out.lt (k := k) (by simpa using hk); exact this⟩
      obtain ⟨B2, c2⟩ := z
      have hB2 : ∀ k, blkA B2 = some k → wr.heap.size ≤ k := fun k e => (hz k (by simpa using e)).1
      dsimp only
      simp only [Act.put, List.setIfInBounds_toArray, List.set_cons_succ, List.set_cons_zero]
      refine wpO_quiet 3 rfl (by kernel_rfl) ?_
      simp only [List.take, List.drop]
      repeat (go_big_quiet_step (fail))
      refine wpQuiet_nil ?_
      refine wpO_store (g := w1.heap.size) (t := 30) (old := #[.int .i64 st, .int .i64 sh, .int .i64 sd, .int .i64 sp, .int .i64 eu, .int .i64 es, .int .i64 eh, .int .i64 ea, .int .i64 en, .int .i64 fu, .int .i64 fs, .int .i64 fh, .int .i64 fa, .int .i64 fn, .slice B m mc]) (fun w' => OutE w' wr.heap.size 49 B2 ol.length c2 ol) #[.int .i64 rst, .int .i64 rsh, .int .i64 rsd, .int .i64 rsp, .int .i64 reu, .int .i64 res, .int .i64 reh, .int .i64 rea, .int .i64 ren, .int .i64 rfu, .int .i64 rfs, .int .i64 rfh, .int .i64 rfa, .int .i64 rfn, .slice B2 ol.length c2] rfl rfl rfl rfl (.inr (by simp)) (by kernel_rfl) rfl rfl (fun w' h => ⟨h.2, h.1⟩) (fun w1 w2 hw h b => h.on b) (fun w1 w2 hw h => h.heap (fun k e => hw k (h.lt e).2 (by have := hB2 k e; omega))) ?_
      simp only [Act.put]
      refine wpO_nil ?_
      rintro w6 b6 ⟨H5, H6⟩
      have LG2 := Lib.hid H5
      have KS2 := Lib.hid H6
      have hKB : Hid (Below w1.heap.size wr w6) := KeptBut.below b6 (by omega) (by simp)
      have s6 := b6.size
      have M2 : Hid (MadeB w6 V0.heap.size bs gb cb) := M.out.heap (b6.block _ M.out.base.2 (by simp; omega))
      clear b6 H5 H6 hr hy hol fb
      go_wp2
      go_roundw
      case rel => exact ⟨k + 1, ⟨rst, rsh, rsd, rsp, ⟨⟨reu, res, reh, rea⟩, ren⟩, ⟨⟨rfu, rfs, rfh, rfa⟩, rfn⟩⟩, B2, ol.length, c2, ol, by omega, by go_num, hlen, fun j e => ⟨by have := hB2 j e; omega, by have := hB2 j e; omega⟩, LG2.out.mono (by omega), M2.out, (hKB.out.block _ (by omega)).trans R0.out, KS2.out, C.out.below (hKB.out.mono (by omega)), only_from G.out (hKB.out.mono (show w.heap.size ≤ w1.heap.size by omega)) (Nat.le_refl _), by omega⟩
      case measure => simp [intOf]; omega
    · have hk2 : (k : Int) = n0 := by omega
      have hjl : ∀ j, blkA B = some j → j ≠ w1.heap.size := fun j e => (hjk j e).2
      have hjr : ∀ j, blkA B = some j → V0.heap.size ≤ j := fun j e => (hjk j e).1
      go_wp2_with fail
      refine (l1Once_any _ g A n cap i4 h4 8 hn (by omega) (by omega) C.out).mono ?_
      rintro e w7 ⟨o, i7, h7, rfl, c, b⟩
      replace G := Lib.hid (only_trans G.out b)
      replace C := Lib.hid c
      replace R0 := Lib.hid (blk_kept b R0.out (by omega))
      replace KS := Lib.hid (blk_kept b KS.out (by omega))
      replace LG := Lib.hid (LG.out.kept b (fun k e e2 => by have h1 := LG.out.lt e; have h2 := Option.some.inj e2; omega))
      replace M := Lib.hid (M.out.kept b (by intro e; have e1 := Option.some.inj e; omega))
      have sw7 := b.size
      clear b c
      cases o with
      | false =>
        go_wp2_with (first | (refine wpList_load_row rfl 30 _ rfl (w1.heap.size) rfl 30 _ (0, 0) _ KS.out Tryz.underlying30 rfl (by kernel_rfl) ?_) | (refine wpList_store_row rfl 30 _ _ rfl (w.heap.size) #[.int .i64 st, .int .i64 sh, .int .i64 sd, .int .i64 sp, .int .i64 eu, .int .i64 es, .int .i64 eh, .int .i64 ea, .int .i64 en, .int .i64 fu, .int .i64 fs, .int .i64 fh, .int .i64 fa, .int .i64 fn, .slice B m mc] rfl rfl 30 _ R0.out (by kernel_rfl) rfl (by simp [Value.oneCell']) ?_))
        have bs9 : Below w.heap.size w7 (w7.setRow w.heap.size #[.int .i64 st, .int .i64 sh, .int .i64 sd, .int .i64 sp, .int .i64 eu, .int .i64 es, .int .i64 eh, .int .i64 ea, .int .i64 en, .int .i64 fu, .int .i64 fs, .int .i64 fh, .int .i64 fa, .int .i64 fn, .slice B m mc]) := below_setRow (Below.refl _ _) (Nat.le_refl _) _
        exact row_ret2 (r := w.heap.size) (cs := #[.int .i64 st, .int .i64 sh, .int .i64 sd, .int .i64 sp, .int .i64 eu, .int .i64 es, .int .i64 eh, .int .i64 ea, .int .i64 en, .int .i64 fu, .int .i64 fs, .int .i64 fh, .int .i64 fa, .int .i64 fn, .slice B m mc]) rfl rfl rfl (setRow_heap _ _ _ _ _ _ R0.out) Tryz.underlying30 rfl (by kernel_rfl) rfl ⟨⟨st, sh, sd, sp, ⟨⟨eu, es, eh, ea⟩, en⟩, ⟨⟨fu, fs, fh, fa⟩, fn⟩⟩, B, m, mc, l, bs, gb, cb, i7, h7, hm, hbs, rfl, (LG.out.heap (fun k e => setRow_other _ _ _ _ (by have := LG.out.lt e; omega))).mono (by omega), (M.out.heap (setRow_other _ _ _ _ (by omega))).mono (by omega), C.out.below (bs9.mono (by omega)), only_from G.out bs9 (Nat.le_refl _)⟩
      | true =>
        go_wp2_with fail
        refine (l1Below_any _ g A n cap i7 h7 5 hn (by omega) (by omega) C.out).mono ?_
        rintro e w8 ⟨u, i8, h8, ⟨hu0, hu1⟩, rfl, c, b⟩
        replace G := Lib.hid (only_trans G.out b)
        replace C := Lib.hid c
        replace R0 := Lib.hid (blk_kept b R0.out (by omega))
        replace KS := Lib.hid (blk_kept b KS.out (by omega))
        replace LG := Lib.hid (LG.out.kept b (fun k e e2 => by have h1 := LG.out.lt e; have h2 := Option.some.inj e2; omega))
        replace M := Lib.hid (M.out.kept b (by intro e; have e1 := Option.some.inj e; omega))
        have sw8 := b.size
        clear b c
        have hu : u = 0 ∨ u = 1 ∨ u = 2 ∨ u = 3 ∨ u = 4 := by omega
        rcases hu with rfl | rfl | rfl | rfl | rfl
        · go_wp2_with fail
          refine (l1From_any _ g A n cap i8 h8 0 3 hn (by omega) (by omega) (by omega) (by omega) C.out).mono ?_
          rintro e w9 ⟨zz, i9, h9, ⟨_, _⟩, rfl, c, b⟩
          replace G := Lib.hid (only_trans G.out b)
          replace C := Lib.hid c
          replace R0 := Lib.hid (blk_kept b R0.out (by omega))
          replace KS := Lib.hid (blk_kept b KS.out (by omega))
          replace LG := Lib.hid (LG.out.kept b (fun k e e2 => by have h1 := LG.out.lt e; have h2 := Option.some.inj e2; omega))
          replace M := Lib.hid (M.out.kept b (by intro e; have e1 := Option.some.inj e; omega))
          have sw9 := b.size
          clear b c
          obtain ⟨⟨e0, e1, e2, e3, e4, e5, e6, e7, e8, e9, e10, e11, e12, e13, e14⟩, f0, f1, f2, f3, f4, f5, f6, f7, f8, f9, f10, f11, f12, f13, f14⟩ := blk15 KS.out
          obtain ⟨W9, hW9q⟩ : ∃ W, setAll w9 w1.heap.size 0 [.int .i64 zz] = W := ⟨_, rfl⟩
          have hW9 : (w9.setCell ⟨w1.heap.size, 0, none⟩ (.int .i64 zz)) = W9 := hW9q
          replace G := Lib.hid (only_setAll (r := w1.heap.size) (by omega) [.int .i64 zz] 0 G.out)
          replace C := Lib.hid (Cur.farAll (r := w1.heap.size) (by omega) [.int .i64 zz] 0 C.out)
          replace R0 := Lib.hid (setAll_away (g := w1.heap.size) (by omega) [.int .i64 zz] 0 R0.out)
          replace LG := Lib.hid (LG.out.heap (fun j e => by have h1 := LG.out.lt e; have h2 := hjl j e; exact setAll_off (w := w9) (g := w1.heap.size) (by omega) [.int .i64 zz] 0))
          replace M := Lib.hid (M.out.heap (setAll_off (w := w9) (g := w1.heap.size) (by omega) [.int .i64 zz] 0))
          have KSx := setAll_blk (w := w9) (g := w1.heap.size) [.int .i64 zz] 0 KS.out
          rw [hW9q] at G C R0 LG M KSx
          have sW9 : w9.heap.size ≤ W9.heap.size := by rw [← hW9q]; exact (setAll_below (B := 0) (a := w9) (Nat.zero_le _) [.int .i64 zz] 0 (Below.refl _ _)).size
          replace KS : Hid (W9.heap[w1.heap.size]? = some (.cells #[.int .i64 zz, .int .i64 sh, .int .i64 sd, .int .i64 sp, .int .i64 eu, .int .i64 es, .int .i64 eh, .int .i64 ea, .int .i64 en, .int .i64 fu, .int .i64 fs, .int .i64 fh, .int .i64 fa, .int .i64 fn, .slice B m mc] 30)) := by
            show _ = _
            rw [KSx]
            congr 2 <;> exact Array.toList_inj.1 ((overA_toList [.int .i64 zz] 0 _ (by simp)).trans rfl)
          clear KSx hW9q
          obtain ⟨⟨k0, k1, k2, k3, k4, k5, k6, k7, k8, k9, k10, k11, k12, k13, k14⟩, _⟩ := blk15 KS.out
          go_wp2_with (first | (refine wpList_load_row rfl 30 _ rfl (w1.heap.size) rfl 30 _ (0, 0) _ KS.out Tryz.underlying30 rfl (by kernel_rfl) ?_) | (refine wpList_store_row rfl 30 _ _ rfl (w.heap.size) #[.int .i64 zz, .int .i64 sh, .int .i64 sd, .int .i64 sp, .int .i64 eu, .int .i64 es, .int .i64 eh, .int .i64 ea, .int .i64 en, .int .i64 fu, .int .i64 fs, .int .i64 fh, .int .i64 fa, .int .i64 fn, .slice B m mc] rfl rfl 30 _ R0.out (by kernel_rfl) rfl (by simp [Value.oneCell']) ?_))
          have bs9 : Below w.heap.size W9 (W9.setRow w.heap.size #[.int .i64 zz, .int .i64 sh, .int .i64 sd, .int .i64 sp, .int .i64 eu, .int .i64 es, .int .i64 eh, .int .i64 ea, .int .i64 en, .int .i64 fu, .int .i64 fs, .int .i64 fh, .int .i64 fa, .int .i64 fn, .slice B m mc]) := below_setRow (Below.refl _ _) (Nat.le_refl _) _
          exact row_ret2 (r := w.heap.size) (cs := #[.int .i64 zz, .int .i64 sh, .int .i64 sd, .int .i64 sp, .int .i64 eu, .int .i64 es, .int .i64 eh, .int .i64 ea, .int .i64 en, .int .i64 fu, .int .i64 fs, .int .i64 fh, .int .i64 fa, .int .i64 fn, .slice B m mc]) rfl rfl rfl (setRow_heap _ _ _ _ _ _ R0.out) Tryz.underlying30 rfl (by kernel_rfl) rfl ⟨⟨zz, sh, sd, sp, ⟨⟨eu, es, eh, ea⟩, en⟩, ⟨⟨fu, fs, fh, fa⟩, fn⟩⟩, B, m, mc, l, bs, gb, cb, i9, h9, hm, hbs, rfl, (LG.out.heap (fun k e => setRow_other _ _ _ _ (by have := LG.out.lt e; omega))).mono (by omega), (M.out.heap (setRow_other _ _ _ _ (by omega))).mono (by omega), C.out.below (bs9.mono (by omega)), only_from G.out bs9 (Nat.le_refl _)⟩
        · go_wp2_with fail
          refine (l5Draw_any _ g A n cap i8 h8 hn C.out).mono ?_
          rintro e w9 ⟨⟨⟨ku, ks, kh, ka⟩, kn⟩, i9, h9, rfl, c, b⟩
          replace G := Lib.hid (only_trans G.out b)
          replace C := Lib.hid c
          replace R0 := Lib.hid (blk_kept b R0.out (by omega))
          replace KS := Lib.hid (blk_kept b KS.out (by omega))
          replace LG := Lib.hid (LG.out.kept b (fun k e e2 => by have h1 := LG.out.lt e; have h2 := Option.some.inj e2; omega))
          replace M := Lib.hid (M.out.kept b (by intro e; have e1 := Option.some.inj e; omega))
          have sw9 := b.size
          clear b c
          have HV : Hid (RowV.val ⟨⟨ku, ks, kh, ka⟩, kn⟩ = .agg #[.int .i64 ku, .int .i64 ks, .int .i64 kh, .int .i64 ka, .int .i64 kn]) := rfl
          rw [HV.out]
          clear HV
          obtain ⟨⟨e0, e1, e2, e3, e4, e5, e6, e7, e8, e9, e10, e11, e12, e13, e14⟩, f0, f1, f2, f3, f4, f5, f6, f7, f8, f9, f10, f11, f12, f13, f14⟩ := blk15 KS.out
          obtain ⟨W9, hW9q⟩ : ∃ W, setAll w9 w1.heap.size 4 [.int .i64 ku, .int .i64 ks, .int .i64 kh, .int .i64 ka, .int .i64 kn] = W := ⟨_, rfl⟩
          have hW9 : (((((w9.setCell ⟨w1.heap.size, 4, none⟩ (.int .i64 ku)).setCell ⟨w1.heap.size, 5, none⟩ (.int .i64 ks)).setCell ⟨w1.heap.size, 6, none⟩ (.int .i64 kh)).setCell ⟨w1.heap.size, 7, none⟩ (.int .i64 ka)).setCell ⟨w1.heap.size, 8, none⟩ (.int .i64 kn)) = W9 := hW9q
          replace G := Lib.hid (only_setAll (r := w1.heap.size) (by omega) [.int .i64 ku, .int .i64 ks, .int .i64 kh, .int .i64 ka, .int .i64 kn] 4 G.out)
          replace C := Lib.hid (Cur.farAll (r := w1.heap.size) (by omega) [.int .i64 ku, .int .i64 ks, .int .i64 kh, .int .i64 ka, .int .i64 kn] 4 C.out)
          replace R0 := Lib.hid (setAll_away (g := w1.heap.size) (by omega) [.int .i64 ku, .int .i64 ks, .int .i64 kh, .int .i64 ka, .int .i64 kn] 4 R0.out)
          replace LG := Lib.hid (LG.out.heap (fun j e => by have h1 := LG.out.lt e; have h2 := hjl j e; exact setAll_off (w := w9) (g := w1.heap.size) (by omega) [.int .i64 ku, .int .i64 ks, .int .i64 kh, .int .i64 ka, .int .i64 kn] 4))
          replace M := Lib.hid (M.out.heap (setAll_off (w := w9) (g := w1.heap.size) (by omega) [.int .i64 ku, .int .i64 ks, .int .i64 kh, .int .i64 ka, .int .i64 kn] 4))
          have KSx := setAll_blk (w := w9) (g := w1.heap.size) [.int .i64 ku, .int .i64 ks, .int .i64 kh, .int .i64 ka, .int .i64 kn] 4 KS.out
          rw [hW9q] at G C R0 LG M KSx
          have sW9 : w9.heap.size ≤ W9.heap.size := by rw [← hW9q]; exact (setAll_below (B := 0) (a := w9) (Nat.zero_le _) [.int .i64 ku, .int .i64 ks, .int .i64 kh, .int .i64 ka, .int .i64 kn] 4 (Below.refl _ _)).size
          replace KS : Hid (W9.heap[w1.heap.size]? = some (.cells #[.int .i64 st, .int .i64 sh, .int .i64 sd, .int .i64 sp, .int .i64 ku, .int .i64 ks, .int .i64 kh, .int .i64 ka, .int .i64 kn, .int .i64 fu, .int .i64 fs, .int .i64 fh, .int .i64 fa, .int .i64 fn, .slice B m mc] 30)) := by
            show _ = _
            rw [KSx]
            congr 2 <;> exact Array.toList_inj.1 ((overA_toList [.int .i64 ku, .int .i64 ks, .int .i64 kh, .int .i64 ka, .int .i64 kn] 4 _ (by simp)).trans rfl)
          clear KSx hW9q
          obtain ⟨⟨k0, k1, k2, k3, k4, k5, k6, k7, k8, k9, k10, k11, k12, k13, k14⟩, _⟩ := blk15 KS.out
          go_wp2_with (first | (refine wpList_load_row rfl 30 _ rfl (w1.heap.size) rfl 30 _ (0, 0) _ KS.out Tryz.underlying30 rfl (by kernel_rfl) ?_) | (refine wpList_store_row rfl 30 _ _ rfl (w.heap.size) #[.int .i64 st, .int .i64 sh, .int .i64 sd, .int .i64 sp, .int .i64 ku, .int .i64 ks, .int .i64 kh, .int .i64 ka, .int .i64 kn, .int .i64 fu, .int .i64 fs, .int .i64 fh, .int .i64 fa, .int .i64 fn, .slice B m mc] rfl rfl 30 _ R0.out (by kernel_rfl) rfl (by simp [Value.oneCell']) ?_))
          have bs9 : Below w.heap.size W9 (W9.setRow w.heap.size #[.int .i64 st, .int .i64 sh, .int .i64 sd, .int .i64 sp, .int .i64 ku, .int .i64 ks, .int .i64 kh, .int .i64 ka, .int .i64 kn, .int .i64 fu, .int .i64 fs, .int .i64 fh, .int .i64 fa, .int .i64 fn, .slice B m mc]) := below_setRow (Below.refl _ _) (Nat.le_refl _) _
          exact row_ret2 (r := w.heap.size) (cs := #[.int .i64 st, .int .i64 sh, .int .i64 sd, .int .i64 sp, .int .i64 ku, .int .i64 ks, .int .i64 kh, .int .i64 ka, .int .i64 kn, .int .i64 fu, .int .i64 fs, .int .i64 fh, .int .i64 fa, .int .i64 fn, .slice B m mc]) rfl rfl rfl (setRow_heap _ _ _ _ _ _ R0.out) Tryz.underlying30 rfl (by kernel_rfl) rfl ⟨⟨st, sh, sd, sp, ⟨⟨ku, ks, kh, ka⟩, kn⟩, ⟨⟨fu, fs, fh, fa⟩, fn⟩⟩, B, m, mc, l, bs, gb, cb, i9, h9, hm, hbs, rfl, (LG.out.heap (fun k e => setRow_other _ _ _ _ (by have := LG.out.lt e; omega))).mono (by omega), (M.out.heap (setRow_other _ _ _ _ (by omega))).mono (by omega), C.out.below (bs9.mono (by omega)), only_from G.out bs9 (Nat.le_refl _)⟩
        · go_wp2_with fail
          refine (l5Draw_any _ g A n cap i8 h8 hn C.out).mono ?_
          rintro e w9 ⟨⟨⟨ku, ks, kh, ka⟩, kn⟩, i9, h9, rfl, c, b⟩
          replace G := Lib.hid (only_trans G.out b)
          replace C := Lib.hid c
          replace R0 := Lib.hid (blk_kept b R0.out (by omega))
          replace KS := Lib.hid (blk_kept b KS.out (by omega))
          replace LG := Lib.hid (LG.out.kept b (fun k e e2 => by have h1 := LG.out.lt e; have h2 := Option.some.inj e2; omega))
          replace M := Lib.hid (M.out.kept b (by intro e; have e1 := Option.some.inj e; omega))
          have sw9 := b.size
          clear b c
          have HV : Hid (RowV.val ⟨⟨ku, ks, kh, ka⟩, kn⟩ = .agg #[.int .i64 ku, .int .i64 ks, .int .i64 kh, .int .i64 ka, .int .i64 kn]) := rfl
          rw [HV.out]
          clear HV
          obtain ⟨⟨e0, e1, e2, e3, e4, e5, e6, e7, e8, e9, e10, e11, e12, e13, e14⟩, f0, f1, f2, f3, f4, f5, f6, f7, f8, f9, f10, f11, f12, f13, f14⟩ := blk15 KS.out
          obtain ⟨W9, hW9q⟩ : ∃ W, setAll w9 w1.heap.size 9 [.int .i64 ku, .int .i64 ks, .int .i64 kh, .int .i64 ka, .int .i64 kn] = W := ⟨_, rfl⟩
          have hW9 : (((((w9.setCell ⟨w1.heap.size, 9, none⟩ (.int .i64 ku)).setCell ⟨w1.heap.size, 10, none⟩ (.int .i64 ks)).setCell ⟨w1.heap.size, 11, none⟩ (.int .i64 kh)).setCell ⟨w1.heap.size, 12, none⟩ (.int .i64 ka)).setCell ⟨w1.heap.size, 13, none⟩ (.int .i64 kn)) = W9 := hW9q
          replace G := Lib.hid (only_setAll (r := w1.heap.size) (by omega) [.int .i64 ku, .int .i64 ks, .int .i64 kh, .int .i64 ka, .int .i64 kn] 9 G.out)
          replace C := Lib.hid (Cur.farAll (r := w1.heap.size) (by omega) [.int .i64 ku, .int .i64 ks, .int .i64 kh, .int .i64 ka, .int .i64 kn] 9 C.out)
          replace R0 := Lib.hid (setAll_away (g := w1.heap.size) (by omega) [.int .i64 ku, .int .i64 ks, .int .i64 kh, .int .i64 ka, .int .i64 kn] 9 R0.out)
          replace LG := Lib.hid (LG.out.heap (fun j e => by have h1 := LG.out.lt e; have h2 := hjl j e; exact setAll_off (w := w9) (g := w1.heap.size) (by omega) [.int .i64 ku, .int .i64 ks, .int .i64 kh, .int .i64 ka, .int .i64 kn] 9))
          replace M := Lib.hid (M.out.heap (setAll_off (w := w9) (g := w1.heap.size) (by omega) [.int .i64 ku, .int .i64 ks, .int .i64 kh, .int .i64 ka, .int .i64 kn] 9))
          have KSx := setAll_blk (w := w9) (g := w1.heap.size) [.int .i64 ku, .int .i64 ks, .int .i64 kh, .int .i64 ka, .int .i64 kn] 9 KS.out
          rw [hW9q] at G C R0 LG M KSx
          have sW9 : w9.heap.size ≤ W9.heap.size := by rw [← hW9q]; exact (setAll_below (B := 0) (a := w9) (Nat.zero_le _) [.int .i64 ku, .int .i64 ks, .int .i64 kh, .int .i64 ka, .int .i64 kn] 9 (Below.refl _ _)).size
          replace KS : Hid (W9.heap[w1.heap.size]? = some (.cells #[.int .i64 st, .int .i64 sh, .int .i64 sd, .int .i64 sp, .int .i64 eu, .int .i64 es, .int .i64 eh, .int .i64 ea, .int .i64 en, .int .i64 ku, .int .i64 ks, .int .i64 kh, .int .i64 ka, .int .i64 kn, .slice B m mc] 30)) := by
            show _ = _
            rw [KSx]
            congr 2 <;> exact Array.toList_inj.1 ((overA_toList [.int .i64 ku, .int .i64 ks, .int .i64 kh, .int .i64 ka, .int .i64 kn] 9 _ (by simp)).trans rfl)
          clear KSx hW9q
          obtain ⟨⟨k0, k1, k2, k3, k4, k5, k6, k7, k8, k9, k10, k11, k12, k13, k14⟩, _⟩ := blk15 KS.out
          go_wp2_with (first | (refine wpList_load_row rfl 30 _ rfl (w1.heap.size) rfl 30 _ (0, 0) _ KS.out Tryz.underlying30 rfl (by kernel_rfl) ?_) | (refine wpList_store_row rfl 30 _ _ rfl (w.heap.size) #[.int .i64 st, .int .i64 sh, .int .i64 sd, .int .i64 sp, .int .i64 eu, .int .i64 es, .int .i64 eh, .int .i64 ea, .int .i64 en, .int .i64 ku, .int .i64 ks, .int .i64 kh, .int .i64 ka, .int .i64 kn, .slice B m mc] rfl rfl 30 _ R0.out (by kernel_rfl) rfl (by simp [Value.oneCell']) ?_))
          have bs9 : Below w.heap.size W9 (W9.setRow w.heap.size #[.int .i64 st, .int .i64 sh, .int .i64 sd, .int .i64 sp, .int .i64 eu, .int .i64 es, .int .i64 eh, .int .i64 ea, .int .i64 en, .int .i64 ku, .int .i64 ks, .int .i64 kh, .int .i64 ka, .int .i64 kn, .slice B m mc]) := below_setRow (Below.refl _ _) (Nat.le_refl _) _
          exact row_ret2 (r := w.heap.size) (cs := #[.int .i64 st, .int .i64 sh, .int .i64 sd, .int .i64 sp, .int .i64 eu, .int .i64 es, .int .i64 eh, .int .i64 ea, .int .i64 en, .int .i64 ku, .int .i64 ks, .int .i64 kh, .int .i64 ka, .int .i64 kn, .slice B m mc]) rfl rfl rfl (setRow_heap _ _ _ _ _ _ R0.out) Tryz.underlying30 rfl (by kernel_rfl) rfl ⟨⟨st, sh, sd, sp, ⟨⟨eu, es, eh, ea⟩, en⟩, ⟨⟨ku, ks, kh, ka⟩, kn⟩⟩, B, m, mc, l, bs, gb, cb, i9, h9, hm, hbs, rfl, (LG.out.heap (fun k e => setRow_other _ _ _ _ (by have := LG.out.lt e; omega))).mono (by omega), (M.out.heap (setRow_other _ _ _ _ (by omega))).mono (by omega), C.out.below (bs9.mono (by omega)), only_from G.out bs9 (Nat.le_refl _)⟩
        · go_wp2_with fail
          refine (l1From_any _ g A n cap i8 h8 0 4 hn (by omega) (by omega) (by omega) (by omega) C.out).mono ?_
          rintro e w9 ⟨zz, i9, h9, ⟨_, _⟩, rfl, c, b⟩
          replace G := Lib.hid (only_trans G.out b)
          replace C := Lib.hid c
          replace R0 := Lib.hid (blk_kept b R0.out (by omega))
          replace KS := Lib.hid (blk_kept b KS.out (by omega))
          replace LG := Lib.hid (LG.out.kept b (fun k e e2 => by have h1 := LG.out.lt e; have h2 := Option.some.inj e2; omega))
          replace M := Lib.hid (M.out.kept b (by intro e; have e1 := Option.some.inj e; omega))
          have sw9 := b.size
          clear b c
          obtain ⟨⟨e0, e1, e2, e3, e4, e5, e6, e7, e8, e9, e10, e11, e12, e13, e14⟩, f0, f1, f2, f3, f4, f5, f6, f7, f8, f9, f10, f11, f12, f13, f14⟩ := blk15 KS.out
          obtain ⟨W9, hW9q⟩ : ∃ W, setAll w9 w1.heap.size 3 [.int .i64 zz] = W := ⟨_, rfl⟩
          have hW9 : (w9.setCell ⟨w1.heap.size, 3, none⟩ (.int .i64 zz)) = W9 := hW9q
          replace G := Lib.hid (only_setAll (r := w1.heap.size) (by omega) [.int .i64 zz] 3 G.out)
          replace C := Lib.hid (Cur.farAll (r := w1.heap.size) (by omega) [.int .i64 zz] 3 C.out)
          replace R0 := Lib.hid (setAll_away (g := w1.heap.size) (by omega) [.int .i64 zz] 3 R0.out)
          replace LG := Lib.hid (LG.out.heap (fun j e => by have h1 := LG.out.lt e; have h2 := hjl j e; exact setAll_off (w := w9) (g := w1.heap.size) (by omega) [.int .i64 zz] 3))
          replace M := Lib.hid (M.out.heap (setAll_off (w := w9) (g := w1.heap.size) (by omega) [.int .i64 zz] 3))
          have KSx := setAll_blk (w := w9) (g := w1.heap.size) [.int .i64 zz] 3 KS.out
          rw [hW9q] at G C R0 LG M KSx
          have sW9 : w9.heap.size ≤ W9.heap.size := by rw [← hW9q]; exact (setAll_below (B := 0) (a := w9) (Nat.zero_le _) [.int .i64 zz] 3 (Below.refl _ _)).size
          replace KS : Hid (W9.heap[w1.heap.size]? = some (.cells #[.int .i64 st, .int .i64 sh, .int .i64 sd, .int .i64 zz, .int .i64 eu, .int .i64 es, .int .i64 eh, .int .i64 ea, .int .i64 en, .int .i64 fu, .int .i64 fs, .int .i64 fh, .int .i64 fa, .int .i64 fn, .slice B m mc] 30)) := by
            show _ = _
            rw [KSx]
            congr 2 <;> exact Array.toList_inj.1 ((overA_toList [.int .i64 zz] 3 _ (by simp)).trans rfl)
          clear KSx hW9q
          obtain ⟨⟨k0, k1, k2, k3, k4, k5, k6, k7, k8, k9, k10, k11, k12, k13, k14⟩, _⟩ := blk15 KS.out
          go_wp2_with (first | (refine wpList_load_row rfl 30 _ rfl (w1.heap.size) rfl 30 _ (0, 0) _ KS.out Tryz.underlying30 rfl (by kernel_rfl) ?_) | (refine wpList_store_row rfl 30 _ _ rfl (w.heap.size) #[.int .i64 st, .int .i64 sh, .int .i64 sd, .int .i64 zz, .int .i64 eu, .int .i64 es, .int .i64 eh, .int .i64 ea, .int .i64 en, .int .i64 fu, .int .i64 fs, .int .i64 fh, .int .i64 fa, .int .i64 fn, .slice B m mc] rfl rfl 30 _ R0.out (by kernel_rfl) rfl (by simp [Value.oneCell']) ?_))
          have bs9 : Below w.heap.size W9 (W9.setRow w.heap.size #[.int .i64 st, .int .i64 sh, .int .i64 sd, .int .i64 zz, .int .i64 eu, .int .i64 es, .int .i64 eh, .int .i64 ea, .int .i64 en, .int .i64 fu, .int .i64 fs, .int .i64 fh, .int .i64 fa, .int .i64 fn, .slice B m mc]) := below_setRow (Below.refl _ _) (Nat.le_refl _) _
          exact row_ret2 (r := w.heap.size) (cs := #[.int .i64 st, .int .i64 sh, .int .i64 sd, .int .i64 zz, .int .i64 eu, .int .i64 es, .int .i64 eh, .int .i64 ea, .int .i64 en, .int .i64 fu, .int .i64 fs, .int .i64 fh, .int .i64 fa, .int .i64 fn, .slice B m mc]) rfl rfl rfl (setRow_heap _ _ _ _ _ _ R0.out) Tryz.underlying30 rfl (by kernel_rfl) rfl ⟨⟨st, sh, sd, zz, ⟨⟨eu, es, eh, ea⟩, en⟩, ⟨⟨fu, fs, fh, fa⟩, fn⟩⟩, B, m, mc, l, bs, gb, cb, i9, h9, hm, hbs, rfl, (LG.out.heap (fun k e => setRow_other _ _ _ _ (by have := LG.out.lt e; omega))).mono (by omega), (M.out.heap (setRow_other _ _ _ _ (by omega))).mono (by omega), C.out.below (bs9.mono (by omega)), only_from G.out bs9 (Nat.le_refl _)⟩
        · go_wp2_with fail
          refine (l1Below_any _ g A n cap i8 h8 3 hn (by omega) (by omega) C.out).mono ?_
          rintro e w9 ⟨zz, i9, h9, ⟨hz0, hz1⟩, rfl, c, b⟩
          replace G := Lib.hid (only_trans G.out b)
          replace C := Lib.hid c
          replace R0 := Lib.hid (blk_kept b R0.out (by omega))
          replace KS := Lib.hid (blk_kept b KS.out (by omega))
          replace LG := Lib.hid (LG.out.kept b (fun k e e2 => by have h1 := LG.out.lt e; have h2 := Option.some.inj e2; omega))
          replace M := Lib.hid (M.out.kept b (by intro e; have e1 := Option.some.inj e; omega))
          have sw9 := b.size
          clear b c
          obtain ⟨zn, rfl⟩ := Int.eq_ofNat_of_zero_le hz0
          have hmk := make_words (59 + zn) (59 + (zn : Int)) (by omega) (by omega) w9
          have hmw := made_words (59 + zn) (by omega) w9
          clear LG
          obtain ⟨V10, hV10⟩ : ∃ W, w9.alloc (.cells (madeCells #[.string ⟨#[]⟩, .bool false] ((59 + zn) * 2)) 49) = W := ⟨_, rfl⟩
          replace G := Lib.hid (only_alloc G.out (.cells (madeCells #[.string ⟨#[]⟩, .bool false] ((59 + zn) * 2)) 49))
          replace C := Lib.hid (C.out.alloc (.cells (madeCells #[.string ⟨#[]⟩, .bool false] ((59 + zn) * 2)) 49))
          replace R0 := Lib.hid (alloc_blk (o := .cells (madeCells #[.string ⟨#[]⟩, .bool false] ((59 + zn) * 2)) 49) R0.out)
          replace KS := Lib.hid (alloc_blk (o := .cells (madeCells #[.string ⟨#[]⟩, .bool false] ((59 + zn) * 2)) 49) KS.out)
          replace M := Lib.hid (M.out.alloc (.cells (madeCells #[.string ⟨#[]⟩, .bool false] ((59 + zn) * 2)) 49))
          have MW := Lib.hid (heap1 w9 (.cells (madeCells #[.string ⟨#[]⟩, .bool false] ((59 + zn) * 2)) 49))
          rw [hV10] at G C R0 KS M MW
          have sV10 : w9.heap.size < V10.heap.size := by rw [← hV10]; simp
          rw [hV10] at hmk hmw
          have LG2 : Hid (OutE V10 w9.heap.size 49 (some ⟨w9.heap.size, 0, none⟩) (59 + zn) (59 + zn) (List.replicate (59 + zn) WordV.zero)) := .inr ⟨w9.heap.size, rfl, by simp, hmw⟩
          clear hmw MW
          have hjl2 : w9.heap.size ≠ w1.heap.size := by omega
          clear hjl
          have hjl : ∀ j, blkA (some (⟨w9.heap.size, 0, none⟩ : Addr)) = some j → j ≠ w1.heap.size := fun j e => by have e1 : w9.heap.size = j := Option.some.inj e; omega
          obtain ⟨⟨e0, e1, e2, e3, e4, e5, e6, e7, e8, e9, e10, e11, e12, e13, e14⟩, f0, f1, f2, f3, f4, f5, f6, f7, f8, f9, f10, f11, f12, f13, f14⟩ := blk15 KS.out
          obtain ⟨W9, hW9q⟩ : ∃ W, setAll V10 w1.heap.size 14 [.slice (some ⟨w9.heap.size, 0, none⟩) (59 + zn) (59 + zn)] = W := ⟨_, rfl⟩
          have hW9 : (V10.setCell ⟨w1.heap.size, 14, none⟩ (.slice (some ⟨w9.heap.size, 0, none⟩) (59 + zn) (59 + zn))) = W9 := hW9q
          replace G := Lib.hid (only_setAll (r := w1.heap.size) (by omega) [.slice (some ⟨w9.heap.size, 0, none⟩) (59 + zn) (59 + zn)] 14 G.out)
          replace C := Lib.hid (Cur.farAll (r := w1.heap.size) (by omega) [.slice (some ⟨w9.heap.size, 0, none⟩) (59 + zn) (59 + zn)] 14 C.out)
          replace R0 := Lib.hid (setAll_away (g := w1.heap.size) (by omega) [.slice (some ⟨w9.heap.size, 0, none⟩) (59 + zn) (59 + zn)] 14 R0.out)
          replace M := Lib.hid (M.out.heap (setAll_off (w := V10) (g := w1.heap.size) (by omega) [.slice (some ⟨w9.heap.size, 0, none⟩) (59 + zn) (59 + zn)] 14))
          replace LG2 := Lib.hid (LG2.out.heap (fun j e => by have h1 := LG2.out.lt e; have h2 := hjl j e; exact setAll_off (w := V10) (g := w1.heap.size) (by omega) [.slice (some ⟨w9.heap.size, 0, none⟩) (59 + zn) (59 + zn)] 14))
          have KSx := setAll_blk (w := V10) (g := w1.heap.size) [.slice (some ⟨w9.heap.size, 0, none⟩) (59 + zn) (59 + zn)] 14 KS.out
          rw [hW9q] at G C R0 M LG2 KSx
          have sW9 : V10.heap.size ≤ W9.heap.size := by rw [← hW9q]; exact (setAll_below (B := 0) (a := V10) (Nat.zero_le _) [.slice (some ⟨w9.heap.size, 0, none⟩) (59 + zn) (59 + zn)] 14 (Below.refl _ _)).size
          replace KS : Hid (W9.heap[w1.heap.size]? = some (.cells #[.int .i64 st, .int .i64 sh, .int .i64 sd, .int .i64 sp, .int .i64 eu, .int .i64 es, .int .i64 eh, .int .i64 ea, .int .i64 en, .int .i64 fu, .int .i64 fs, .int .i64 fh, .int .i64 fa, .int .i64 fn, .slice (some ⟨w9.heap.size, 0, none⟩) (59 + zn) (59 + zn)] 30)) := by
            show _ = _
            rw [KSx]
            congr 2 <;> exact Array.toList_inj.1 ((overA_toList [.slice (some ⟨w9.heap.size, 0, none⟩) (59 + zn) (59 + zn)] 14 _ (by simp)).trans rfl)
          clear KSx hW9q
          obtain ⟨⟨k0, k1, k2, k3, k4, k5, k6, k7, k8, k9, k10, k11, k12, k13, k14⟩, _⟩ := blk15 KS.out
          go_wp2_with (first | (refine wpList_load_row rfl 30 _ rfl (w1.heap.size) rfl 30 _ (0, 0) _ KS.out Tryz.underlying30 rfl (by kernel_rfl) ?_) | (refine wpList_store_row rfl 30 _ _ rfl (w.heap.size) #[.int .i64 st, .int .i64 sh, .int .i64 sd, .int .i64 sp, .int .i64 eu, .int .i64 es, .int .i64 eh, .int .i64 ea, .int .i64 en, .int .i64 fu, .int .i64 fs, .int .i64 fh, .int .i64 fa, .int .i64 fn, .slice (some ⟨w9.heap.size, 0, none⟩) (59 + zn) (59 + zn)] rfl rfl 30 _ R0.out (by kernel_rfl) rfl (by simp [Value.oneCell']) ?_))
          have bs9 : Below w.heap.size W9 (W9.setRow w.heap.size #[.int .i64 st, .int .i64 sh, .int .i64 sd, .int .i64 sp, .int .i64 eu, .int .i64 es, .int .i64 eh, .int .i64 ea, .int .i64 en, .int .i64 fu, .int .i64 fs, .int .i64 fh, .int .i64 fa, .int .i64 fn, .slice (some ⟨w9.heap.size, 0, none⟩) (59 + zn) (59 + zn)]) := below_setRow (Below.refl _ _) (Nat.le_refl _) _
          exact row_ret2 (r := w.heap.size) (cs := #[.int .i64 st, .int .i64 sh, .int .i64 sd, .int .i64 sp, .int .i64 eu, .int .i64 es, .int .i64 eh, .int .i64 ea, .int .i64 en, .int .i64 fu, .int .i64 fs, .int .i64 fh, .int .i64 fa, .int .i64 fn, .slice (some ⟨w9.heap.size, 0, none⟩) (59 + zn) (59 + zn)]) rfl rfl rfl (setRow_heap _ _ _ _ _ _ R0.out) Tryz.underlying30 rfl (by kernel_rfl) rfl ⟨⟨st, sh, sd, sp, ⟨⟨eu, es, eh, ea⟩, en⟩, ⟨⟨fu, fs, fh, fa⟩, fn⟩⟩, (some ⟨w9.heap.size, 0, none⟩), (59 + zn), (59 + zn), (List.replicate (59 + zn) WordV.zero), bs, gb, cb, i9, h9, (by omega), hbs, rfl, (LG2.out.heap (fun k e => setRow_other _ _ _ _ (by have := LG2.out.lt e; omega))).mono (by omega), (M.out.heap (setRow_other _ _ _ _ (by omega))).mono (by omega), C.out.below (bs9.mono (by omega)), only_from G.out bs9 (Nat.le_refl _)⟩

end Go.Proofs.YtchdmmlkgglmcaaGreatDoor.Tx
namespace Go.Proofs.YtchdmmlkgglmcaaGreatDoor.Tx
open Go.RowKit

/-- What a draw of a seat leaves; of a seat and a box. -/
def SeatIn (w : World) (e : Ending) (w' : World) : Prop := ∃ (s : SeatV) (B : Option Addr) (m mc : Nat) (l : List WordV), m ≤ 100 ∧ e = .returned (s.val B m mc) ∧ OutE w' w.heap.size 49 B m mc l ∧ Below w.heap.size w w'
def HearsIn (w : World) (e : Ending) (w' : World) : Prop := ∃ (s : SeatV) (B : Option Addr) (m mc : Nat) (l : List WordV) (b : BoxV), m ≤ 100 ∧ e = .returned (.tuple #[s.val B m mc, b.val]) ∧ OutE w' w.heap.size 49 B m mc l ∧ Below w.heap.size w w'

set_option maxRecDepth 100000 in
set_option maxHeartbeats 8000000 in
theorem DrawSeatOk_any (w : World) (A : Option Addr) (n cap : Nat) (hn : n ≤ 4096) (hb : BytesAt w w.heap.size A n) :
    Calls Tryz.prog 31 #[.slice A n cap] w (SeatIn w) := by
  have K := Lib.hid (Below.refl w.heap.size w)
  have BT := Lib.hid hb
  clear hb
  go_enter Tryz.func31, Tryz.ntmps31
  obtain ⟨V0, hV0⟩ : ∃ W, w.alloc (.cells #[.int .i64 0, .int .i64 0, .int .i64 0, .int .i64 0, .int .i64 0, .int .i64 0, .int .i64 0, .int .i64 0, .int .i64 0, .int .i64 0, .int .i64 0, .int .i64 0, .int .i64 0, .int .i64 0, .slice none 0 0] 30) = W := ⟨_, rfl⟩
  replace BT := Lib.hid (BT.out.below ((Below.refl _ _).alloc K.out.size (.cells #[.int .i64 0, .int .i64 0, .int .i64 0, .int .i64 0, .int .i64 0, .int .i64 0, .int .i64 0, .int .i64 0, .int .i64 0, .int .i64 0, .int .i64 0, .int .i64 0, .int .i64 0, .int .i64 0, .slice none 0 0] 30)))
  replace K := Lib.hid (K.out.alloc K.out.size (.cells #[.int .i64 0, .int .i64 0, .int .i64 0, .int .i64 0, .int .i64 0, .int .i64 0, .int .i64 0, .int .i64 0, .int .i64 0, .int .i64 0, .int .i64 0, .int .i64 0, .int .i64 0, .int .i64 0, .slice none 0 0] 30))
  have R0 := Lib.hid (heap1 w (.cells #[.int .i64 0, .int .i64 0, .int .i64 0, .int .i64 0, .int .i64 0, .int .i64 0, .int .i64 0, .int .i64 0, .int .i64 0, .int .i64 0, .int .i64 0, .int .i64 0, .int .i64 0, .int .i64 0, .slice none 0 0] 30))
  rw [hV0] at BT K R0
  have sV0 : w.heap.size < V0.heap.size := by rw [← hV0]; simp
  go_wp2_with fail
  refine (l1New_any _ A n cap hn (BT.out.up K.out.size)).mono ?_
  rintro e w1 ⟨rfl, h0, c, b⟩
  replace BT := Lib.hid (BT.out.below (b.mono K.out.size))
  replace K := Lib.hid (K.out.trans (b.mono K.out.size))
  replace R0 := Lib.hid (blk_on b R0.out)
  have C := Lib.hid c
  have hcl := c.lt
  have sw1 := b.size
  have sK := K.out.size
  clear b c
  clear hV0
  go_wp2_with fail
  refine (l14DrawAny_any _ _ A n cap 0 h0 hn _ (by omega) BT.out C.out).mono ?_
  rintro e w2 ⟨⟨st, sh, sd, sp, ⟨⟨eu, es, eh, ea⟩, en⟩, ⟨⟨fu, fs, fh, fa⟩, fn⟩⟩, B, m, mc, l, bs, gb, cb, i1, h1, hm, hbs, rfl, ho, mb, c, b⟩
  replace BT := Lib.hid (BT.out.below ((Below.refl _ _).grown b K.out.size (fun k e => by have e1 := Option.some.inj e; omega)))
  replace K := Lib.hid (below_off K.out b ⟨by omega, K.out.size⟩)
  replace R0 := Lib.hid (blk_kept b R0.out (by omega))
  replace C := Lib.hid c
  have sw2 := b.size
  have LG0 := Lib.hid ho
  have M0 := Lib.hid mb
  have hgb := mb.base
  have hlLG : ∀ k, blkA B = some k → w1.heap.size ≤ k ∧ k < w2.heap.size := fun k e => ho.lt e
  clear ho mb
  clear b c
  have LG := LG0
  have M := M0
  clear LG0 M0
  have HV : Hid (SeatV.val ⟨st, sh, sd, sp, ⟨⟨eu, es, eh, ea⟩, en⟩, ⟨⟨fu, fs, fh, fa⟩, fn⟩⟩ B m mc = .agg #[.int .i64 st, .int .i64 sh, .int .i64 sd, .int .i64 sp, .int .i64 eu, .int .i64 es, .int .i64 eh, .int .i64 ea, .int .i64 en, .int .i64 fu, .int .i64 fs, .int .i64 fh, .int .i64 fa, .int .i64 fn, .slice B m mc]) := rfl
  rw [HV.out]
  clear HV
  obtain ⟨V3, hV3⟩ : ∃ W, w2.alloc (.cells #[.int .i64 0, .int .i64 0, .int .i64 0, .int .i64 0, .int .i64 0, .int .i64 0, .int .i64 0, .int .i64 0, .int .i64 0, .int .i64 0, .int .i64 0, .int .i64 0, .int .i64 0, .int .i64 0, .slice none 0 0] 30) = W := ⟨_, rfl⟩
  replace BT := Lib.hid (BT.out.below ((Below.refl _ _).alloc K.out.size (.cells #[.int .i64 0, .int .i64 0, .int .i64 0, .int .i64 0, .int .i64 0, .int .i64 0, .int .i64 0, .int .i64 0, .int .i64 0, .int .i64 0, .int .i64 0, .int .i64 0, .int .i64 0, .int .i64 0, .slice none 0 0] 30)))
  replace K := Lib.hid (K.out.alloc K.out.size (.cells #[.int .i64 0, .int .i64 0, .int .i64 0, .int .i64 0, .int .i64 0, .int .i64 0, .int .i64 0, .int .i64 0, .int .i64 0, .int .i64 0, .int .i64 0, .int .i64 0, .int .i64 0, .int .i64 0, .slice none 0 0] 30))
  replace R0 := Lib.hid (alloc_blk (o := .cells #[.int .i64 0, .int .i64 0, .int .i64 0, .int .i64 0, .int .i64 0, .int .i64 0, .int .i64 0, .int .i64 0, .int .i64 0, .int .i64 0, .int .i64 0, .int .i64 0, .int .i64 0, .int .i64 0, .slice none 0 0] 30) R0.out)
  replace C := Lib.hid (C.out.alloc (.cells #[.int .i64 0, .int .i64 0, .int .i64 0, .int .i64 0, .int .i64 0, .int .i64 0, .int .i64 0, .int .i64 0, .int .i64 0, .int .i64 0, .int .i64 0, .int .i64 0, .int .i64 0, .int .i64 0, .slice none 0 0] 30))
  replace LG := Lib.hid (LG.out.on ((Below.refl _ _).alloc (Nat.le_refl _) (.cells #[.int .i64 0, .int .i64 0, .int .i64 0, .int .i64 0, .int .i64 0, .int .i64 0, .int .i64 0, .int .i64 0, .int .i64 0, .int .i64 0, .int .i64 0, .int .i64 0, .int .i64 0, .int .i64 0, .slice none 0 0] 30)))
  replace M := Lib.hid (M.out.alloc (.cells #[.int .i64 0, .int .i64 0, .int .i64 0, .int .i64 0, .int .i64 0, .int .i64 0, .int .i64 0, .int .i64 0, .int .i64 0, .int .i64 0, .int .i64 0, .int .i64 0, .int .i64 0, .int .i64 0, .slice none 0 0] 30))
  have KS := Lib.hid (heap1 w2 (.cells #[.int .i64 0, .int .i64 0, .int .i64 0, .int .i64 0, .int .i64 0, .int .i64 0, .int .i64 0, .int .i64 0, .int .i64 0, .int .i64 0, .int .i64 0, .int .i64 0, .int .i64 0, .int .i64 0, .slice none 0 0] 30))
  rw [hV3] at BT K R0 C LG M KS
  have sV3 : w2.heap.size < V3.heap.size := by rw [← hV3]; simp
  have KSo := KS
  have bs : Below w2.heap.size V3 (V3.setRow w2.heap.size #[.int .i64 st, .int .i64 sh, .int .i64 sd, .int .i64 sp, .int .i64 eu, .int .i64 es, .int .i64 eh, .int .i64 ea, .int .i64 en, .int .i64 fu, .int .i64 fs, .int .i64 fh, .int .i64 fa, .int .i64 fn, .slice B m mc]) := below_setRow (Below.refl _ _) (Nat.le_refl _) _
  have KS2 : Hid ((V3.setRow w2.heap.size #[.int .i64 st, .int .i64 sh, .int .i64 sd, .int .i64 sp, .int .i64 eu, .int .i64 es, .int .i64 eh, .int .i64 ea, .int .i64 en, .int .i64 fu, .int .i64 fs, .int .i64 fh, .int .i64 fa, .int .i64 fn, .slice B m mc]).heap[w2.heap.size]? = some (.cells #[.int .i64 st, .int .i64 sh, .int .i64 sd, .int .i64 sp, .int .i64 eu, .int .i64 es, .int .i64 eh, .int .i64 ea, .int .i64 en, .int .i64 fu, .int .i64 fs, .int .i64 fh, .int .i64 fa, .int .i64 fn, .slice B m mc] 30)) := setRow_heap _ _ _ _ _ _ KS.out
  have BT2 := Lib.hid (BT.out.below (bs.mono (by omega)))
  have K2 := Lib.hid (K.out.trans (bs.mono (by omega)))
  have R02 := Lib.hid (show (V3.setRow w2.heap.size #[.int .i64 st, .int .i64 sh, .int .i64 sd, .int .i64 sp, .int .i64 eu, .int .i64 es, .int .i64 eh, .int .i64 ea, .int .i64 en, .int .i64 fu, .int .i64 fs, .int .i64 fh, .int .i64 fa, .int .i64 fn, .slice B m mc]).heap[_]? = _ from (setRow_other _ _ _ _ (by omega)).trans R0.out)
  have C2 := Lib.hid (C.out.below (bs.mono (by omega)))
  have LG2 := Lib.hid (LG.out.heap (w' := (V3.setRow w2.heap.size #[.int .i64 st, .int .i64 sh, .int .i64 sd, .int .i64 sp, .int .i64 eu, .int .i64 es, .int .i64 eh, .int .i64 ea, .int .i64 en, .int .i64 fu, .int .i64 fs, .int .i64 fh, .int .i64 fa, .int .i64 fn, .slice B m mc])) (fun k e => setRow_other _ _ _ _ (by have := hlLG k e; omega)))
  have M2 := Lib.hid (M.out.heap (w' := (V3.setRow w2.heap.size #[.int .i64 st, .int .i64 sh, .int .i64 sd, .int .i64 sp, .int .i64 eu, .int .i64 es, .int .i64 eh, .int .i64 ea, .int .i64 en, .int .i64 fu, .int .i64 fs, .int .i64 fh, .int .i64 fa, .int .i64 fn, .slice B m mc])) (setRow_other _ _ _ _ (by have := M.out.base; omega)))
  have sR := bs.size
  go_wp2_with (first | (refine wpList_load_row rfl 30 _ rfl (w2.heap.size) rfl 30 _ (0, 0) _ KS2.out Tryz.underlying30 rfl (by kernel_rfl) ?_) | (refine wpList_store_row rfl 30 _ _ rfl (w.heap.size) #[.int .i64 st, .int .i64 sh, .int .i64 sd, .int .i64 sp, .int .i64 eu, .int .i64 es, .int .i64 eh, .int .i64 ea, .int .i64 en, .int .i64 fu, .int .i64 fs, .int .i64 fh, .int .i64 fa, .int .i64 fn, .slice B m mc] rfl rfl 30 _ R02.out (by kernel_rfl) rfl (by simp [Value.oneCell']) ?_) | (refine wpList_store_row rfl 30 _ _ rfl (w2.heap.size) #[.int .i64 st, .int .i64 sh, .int .i64 sd, .int .i64 sp, .int .i64 eu, .int .i64 es, .int .i64 eh, .int .i64 ea, .int .i64 en, .int .i64 fu, .int .i64 fs, .int .i64 fh, .int .i64 fa, .int .i64 fn, .slice B m mc] rfl rfl 30 _ KSo.out (by kernel_rfl) rfl (by simp [Value.oneCell']) ?_))
  clear hV3 
  generalize (V3.setRow w2.heap.size #[.int .i64 st, .int .i64 sh, .int .i64 sd, .int .i64 sp, .int .i64 eu, .int .i64 es, .int .i64 eh, .int .i64 ea, .int .i64 en, .int .i64 fu, .int .i64 fs, .int .i64 fh, .int .i64 fa, .int .i64 fn, .slice B m mc]) = S4 at KS2 BT2 K2 R02 C2 LG2 M2 sR ⊢
  clear bs KSo KS BT K R0 C LG M
  have KS := KS2
  have BT := BT2
  have K := K2
  have R0 := R02
  have C := C2
  have LG := LG2
  have M := M2
  clear KS2 BT2 K2 R02 C2 LG2 M2
  have sSS4 : V3.heap.size ≤ S4.heap.size := sR
  clear sR
  exact row_ret (r := w.heap.size) (cs := #[.int .i64 st, .int .i64 sh, .int .i64 sd, .int .i64 sp, .int .i64 eu, .int .i64 es, .int .i64 eh, .int .i64 ea, .int .i64 en, .int .i64 fu, .int .i64 fs, .int .i64 fh, .int .i64 fa, .int .i64 fn, .slice B m mc]) rfl rfl (setRow_heap _ _ _ _ _ _ R0.out) Tryz.underlying30 rfl (by kernel_rfl) rfl ⟨⟨st, sh, sd, sp, ⟨⟨eu, es, eh, ea⟩, en⟩, ⟨⟨fu, fs, fh, fa⟩, fn⟩⟩, B, m, mc, l, hm, rfl, (LG.out.heap (fun k e => setRow_other _ _ _ _ (by have := hlLG k e; omega))).mono (by omega), below_setRow K.out (Nat.le_refl _) _⟩

set_option maxRecDepth 100000 in
set_option maxHeartbeats 8000000 in
theorem DrawLogOf_any (w : World) (A : Option Addr) (n cap : Nat) (hn : n ≤ 4096) (hb : BytesAt w w.heap.size A n) :
    Calls Tryz.prog 9 #[.slice A n cap] w (SeatIn w) := by
  have K := Lib.hid (Below.refl w.heap.size w)
  have BT := Lib.hid hb
  clear hb
  go_enter Tryz.func9, Tryz.ntmps9
  obtain ⟨V0, hV0⟩ : ∃ W, w.alloc (.cells #[.int .i64 0, .int .i64 0, .int .i64 0, .int .i64 0, .int .i64 0, .int .i64 0, .int .i64 0, .int .i64 0, .int .i64 0, .int .i64 0, .int .i64 0, .int .i64 0, .int .i64 0, .int .i64 0, .slice none 0 0] 30) = W := ⟨_, rfl⟩
  replace BT := Lib.hid (BT.out.below ((Below.refl _ _).alloc K.out.size (.cells #[.int .i64 0, .int .i64 0, .int .i64 0, .int .i64 0, .int .i64 0, .int .i64 0, .int .i64 0, .int .i64 0, .int .i64 0, .int .i64 0, .int .i64 0, .int .i64 0, .int .i64 0, .int .i64 0, .slice none 0 0] 30)))
  replace K := Lib.hid (K.out.alloc K.out.size (.cells #[.int .i64 0, .int .i64 0, .int .i64 0, .int .i64 0, .int .i64 0, .int .i64 0, .int .i64 0, .int .i64 0, .int .i64 0, .int .i64 0, .int .i64 0, .int .i64 0, .int .i64 0, .int .i64 0, .slice none 0 0] 30))
  have R0 := Lib.hid (heap1 w (.cells #[.int .i64 0, .int .i64 0, .int .i64 0, .int .i64 0, .int .i64 0, .int .i64 0, .int .i64 0, .int .i64 0, .int .i64 0, .int .i64 0, .int .i64 0, .int .i64 0, .int .i64 0, .int .i64 0, .slice none 0 0] 30))
  rw [hV0] at BT K R0
  have sV0 : w.heap.size < V0.heap.size := by rw [← hV0]; simp
  go_wp2_with fail
  clear hV0
  refine (DrawSeatOk_any _ A n cap hn (BT.out.up K.out.size)).mono ?_
  rintro e w2 ⟨⟨st, sh, sd, sp, ⟨⟨eu, es, eh, ea⟩, en⟩, ⟨⟨fu, fs, fh, fa⟩, fn⟩⟩, B, m, mc, l, hm, rfl, ho, b⟩
  have hlo : ∀ k, blkA B = some k → V0.heap.size ≤ k := fun k e => (ho.lt e).1
  replace R0 := Lib.hid (blk_on b R0.out)
  replace K := Lib.hid (K.out.trans (b.mono K.out.size))
  clear b BT
  have HV : Hid (SeatV.val ⟨st, sh, sd, sp, ⟨⟨eu, es, eh, ea⟩, en⟩, ⟨⟨fu, fs, fh, fa⟩, fn⟩⟩ B m mc = .agg #[.int .i64 st, .int .i64 sh, .int .i64 sd, .int .i64 sp, .int .i64 eu, .int .i64 es, .int .i64 eh, .int .i64 ea, .int .i64 en, .int .i64 fu, .int .i64 fs, .int .i64 fh, .int .i64 fa, .int .i64 fn, .slice B m mc]) := rfl
  rw [HV.out]
  clear HV
  go_wp2_with (refine wpList_store_row rfl 30 _ _ rfl (w.heap.size) #[.int .i64 st, .int .i64 sh, .int .i64 sd, .int .i64 sp, .int .i64 eu, .int .i64 es, .int .i64 eh, .int .i64 ea, .int .i64 en, .int .i64 fu, .int .i64 fs, .int .i64 fh, .int .i64 fa, .int .i64 fn, .slice B m mc] rfl rfl 30 _ R0.out (by kernel_rfl) rfl (by simp [Value.oneCell']) ?_)
  exact row_ret (r := w.heap.size) (cs := #[.int .i64 st, .int .i64 sh, .int .i64 sd, .int .i64 sp, .int .i64 eu, .int .i64 es, .int .i64 eh, .int .i64 ea, .int .i64 en, .int .i64 fu, .int .i64 fs, .int .i64 fh, .int .i64 fa, .int .i64 fn, .slice B m mc]) rfl rfl (setRow_heap _ _ _ _ _ _ R0.out) Tryz.underlying30 rfl (by kernel_rfl) rfl ⟨⟨st, sh, sd, sp, ⟨⟨eu, es, eh, ea⟩, en⟩, ⟨⟨fu, fs, fh, fa⟩, fn⟩⟩, B, m, mc, l, hm, rfl, (ho.heap (fun k e => setRow_other _ _ _ _ (by have := hlo k e; omega))).mono (by omega), below_setRow K.out (Nat.le_refl _) _⟩

set_option maxRecDepth 100000 in
set_option maxHeartbeats 4000000 in
theorem DrawNewSeat_any (w : World) (A : Option Addr) (n cap : Nat) (hn : n ≤ 4096) (hb : BytesAt w w.heap.size A n) :
    Calls Tryz.prog 7 #[.slice A n cap] w (AnsingOut w) := by
  have K := Lib.hid (Below.refl w.heap.size w)
  have BT := Lib.hid hb
  clear hb
  go_enter Tryz.func7, Tryz.ntmps7
  go_wp2_with fail
  refine (DrawAnswering_any _ A n cap hn BT.out).mono ?_
  rintro e w2 ⟨hh, d, p, s, hp, rfl, b⟩
  go_wp2
  refine bodyPost_ret (v := .tuple #[.int .i64 hh, .int .i64 d, .int .i64 p, .int .i64 s]) ?_ rfl ⟨hh, d, p, s, hp, rfl, b⟩
  simp [results, Tryz.f7, go_sem]

end Go.Proofs.YtchdmmlkgglmcaaGreatDoor.Tx

/-
  What the functions of chapter 11 of the model answer, and what toAnswer, szAnswer and eqAnswer of the laws do. Conditions: a box's text has at most 2^63 - 1 bytes; a pick is an int64.
  What NewSeat of the model answers. No conditions.
  A list that a call made, or nil. Nothing of the program is named here. No conditions.
  What is written into a list that a call made, or nil. Nothing of the program is named here. No conditions.
  markSeat and heldSeat of a seat whose list a call made, or is nil; how long a log may become. Conditions: at most 1048576 words.
  What the model draws for chapter 14: a seat, and boxes that are meant for it. Condition: the draw's code has at most 4096 bytes.
  What the model draws for chapter 14: a seat that heard some boxes, changed at times. Condition: the draw's code has at most 4096 bytes.
  What Answering of the model answers. Condition: a pick is an int64.
  What the model draws for chapter 11: an answer and a secret. Condition: the draw's code has at most 4096 bytes.
  What the model draws for chapter 14 at the face: a seat; a seat and a box; what a seat is made of. Condition: the draw's code has at most 4096 bytes.
-/
import Derived.Deep.DeepCutAuto
import Derived.Laws.CopyOwn
import Derived.Test.YtchdmmlkgglmcaaDoorBox
import Derived.Test.YtchdmmlkgglmcaaDoorAns0
import Derived.Test.YtchdmmlkgglmcaaDoorOffs
import Derived.Test.YtchdmmlkgglmcaaDoorRegionR
import Derived.Test.YtchdmmlkgglmcaaDoorSeat
import Derived.Test.YtchdmmlkgglmcaaDoorCopyE
import Derived.Test.YtchdmmlkgglmcaaDoorHears
import Derived.Test.YtchdmmlkgglmcaaDoorSeat6
import Derived.Test.YtchdmmlkgglmcaaDoorDraw5
import Derived.Test.YtchdmmlkgglmcaaDoorDraw4
namespace Go.Proofs.YtchdmmlkgglmcaaDoor.Tx
open Go.RowKit

theorem blk10 {w : World} {g : Nat} {v0 v1 v2 v3 v4 v5 v6 v7 v8 v9 : Value} {t : TypeId} (h : w.heap[g]? = some (.cells #[v0, v1, v2, v3, v4, v5, v6, v7, v8, v9] t (0, 0))) :
    (w.cell? ⟨g, 0, none⟩ = some v0 ∧ w.cell? ⟨g, 1, none⟩ = some v1 ∧ w.cell? ⟨g, 2, none⟩ = some v2 ∧ w.cell? ⟨g, 3, none⟩ = some v3 ∧ w.cell? ⟨g, 4, none⟩ = some v4 ∧ w.cell? ⟨g, 5, none⟩ = some v5 ∧ w.cell? ⟨g, 6, none⟩ = some v6 ∧ w.cell? ⟨g, 7, none⟩ = some v7 ∧ w.cell? ⟨g, 8, none⟩ = some v8 ∧ w.cell? ⟨g, 9, none⟩ = some v9) ∧
    (w.frozen? ⟨g, 0, none⟩ = false ∧ w.frozen? ⟨g, 1, none⟩ = false ∧ w.frozen? ⟨g, 2, none⟩ = false ∧ w.frozen? ⟨g, 3, none⟩ = false ∧ w.frozen? ⟨g, 4, none⟩ = false ∧ w.frozen? ⟨g, 5, none⟩ = false ∧ w.frozen? ⟨g, 6, none⟩ = false ∧ w.frozen? ⟨g, 7, none⟩ = false ∧ w.frozen? ⟨g, 8, none⟩ = false ∧ w.frozen? ⟨g, 9, none⟩ = false) :=
  ⟨⟨blk_cell h 0, blk_cell h 1, blk_cell h 2, blk_cell h 3, blk_cell h 4, blk_cell h 5, blk_cell h 6, blk_cell h 7, blk_cell h 8, blk_cell h 9⟩, blk_frozen h 0, blk_frozen h 1, blk_frozen h 2, blk_frozen h 3, blk_frozen h 4, blk_frozen h 5, blk_frozen h 6, blk_frozen h 7, blk_frozen h 8, blk_frozen h 9⟩

theorem l11Goes_any (p s : Int) (w : World) : Calls Tryd.prog 33 #[.int .i64 p, .int .i64 s] w fun e w' => e = .returned (.bool (goesP p s)) ∧ Below w.heap.size w w' := by
  by_cases h1 : p = 1
  · subst h1
    have HR : Hid (goesP 1 s = (s == 0)) := rfl
    go_enter Tryd.func33, Tryd.ntmps33
    go_wp2
    go_ret
    exact ⟨by rw [HR.out]; rfl, Below.refl _ _⟩
  · have h1' : (p == 1) = false := by simpa using h1
    by_cases h2 : p = 2
    · subst h2
      have HR : Hid (goesP 2 s = isDrawB s) := by show _ = _; simp [goesP]
      go_enter Tryd.func33, Tryd.ntmps33
      go_wp2_with fail
      refine (IsDraw_spec s _).mono ?_
      rintro e w' ⟨rfl, rfl⟩
      go_wp2
      go_ret
      exact ⟨by rw [HR.out]; rfl, Below.refl _ _⟩
    · have h2' : (p == 2) = false := by simpa using h2
      by_cases h3 : p = 3
      · subst h3
        have HR : Hid (goesP 3 s = isDrawB s) := by show _ = _; simp [goesP]
        go_enter Tryd.func33, Tryd.ntmps33
        go_wp2_with fail
        refine (IsDraw_spec s _).mono ?_
        rintro e w' ⟨rfl, rfl⟩
        go_wp2
        go_ret
        exact ⟨by rw [HR.out]; rfl, Below.refl _ _⟩
      · have h3' : (p == 3) = false := by simpa using h3
        have HR : Hid (goesP p s = false) := by show _ = _; rw [goesP, h1', h2', h3']; rfl
        go_enter Tryd.func33, Tryd.ntmps33
        go_wp2
        go_ret
        exact ⟨by rw [HR.out]; rfl, Below.refl _ _⟩

end Go.Proofs.YtchdmmlkgglmcaaDoor.Tx
namespace Go.Proofs.YtchdmmlkgglmcaaDoor.Tx
open Go.RowKit

set_option maxRecDepth 100000 in
set_option maxHeartbeats 16000000 in
theorem NewSeat_spec (h d p s : Int) (w : World) : Calls Tryd.prog 8 #[.int .i64 h, .int .i64 d, .int .i64 p, .int .i64 s] w fun e w' => e = .returned (.tuple #[(newSeatV h d p s).val none 0 0, .bool (newSeatB h d p s)]) ∧ Below w.heap.size w w' := by
  have G0' : goesP p s = false → newSeatV h d p s = .zero ∧ newSeatB h d p s = false := fun e => by
    have e1 : newSeatB h d p s = false := by rw [newSeatB, e]; rfl
    exact ⟨by rw [newSeatV, e1]; rfl, e1⟩
  have G1' : goesP p s = true → seatOkB (newSeatRaw h d p s) 0 = false → newSeatV h d p s = .zero ∧ newSeatB h d p s = false := fun e e2 => by
    have e1 : newSeatB h d p s = false := by rw [newSeatB, e, e2]; rfl
    exact ⟨by rw [newSeatV, e1]; rfl, e1⟩
  have G2' : goesP p s = true → seatOkB (newSeatRaw h d p s) 0 = true → newSeatV h d p s = newSeatRaw h d p s ∧ newSeatB h d p s = true := fun e e2 => by
    have e1 : newSeatB h d p s = true := by rw [newSeatB, e, e2]; rfl
    exact ⟨by rw [newSeatV, e1]; rfl, e1⟩
  have cFK' := fun w' => ForthKey_spec s h d w'
  have cEK' := fun w' => EarlyKey_spec s h w'
  have e1 : rightK ⟨4, s, h, d⟩ = forthK s h d := rfl
  have e2 : rightK ⟨1, s, h, 0⟩ = earlyK s h := rfl
  have r3 : p = 3 → newSeatRaw h d p s = ⟨1, h, d, p, ⟨earlyK s h, 0⟩, ⟨forthK s h d, 0⟩⟩ := fun hp => by rw [newSeatRaw, beq_int hp]; rfl
  have r4 : p ≠ 3 → newSeatRaw h d p s = ⟨1, h, d, p, .zero, ⟨forthK s h d, 0⟩⟩ := fun hp => by rw [newSeatRaw, bne_int hp]; rfl
  have cS := fun w' => SeatOk_spec (newSeatRaw h d p s) none 0 0 w'
  obtain ⟨⟨ku, ks, kh, ka⟩, hk⟩ : ∃ x, forthK s h d = x := ⟨_, rfl⟩
  obtain ⟨⟨qu, qs, qh, qa⟩, hq⟩ : ∃ x, earlyK s h = x := ⟨_, rfl⟩
  rw [e1, hk] at cFK'
  rw [e2, hq] at cEK'
  rw [hk, hq] at r3
  rw [hk] at r4
  clear e1 e2 hk hq
  obtain ⟨raw, hraw⟩ : ∃ x, newSeatRaw h d p s = x := ⟨_, rfl⟩
  rw [hraw] at G1' G2' r3 r4 cS
  clear hraw
  obtain ⟨zs, hzs⟩ : ∃ x, seatOkB raw 0 = x := ⟨_, rfl⟩
  rw [hzs] at G1' G2' cS
  clear hzs
  have cFK : Hid (∀ w' : World, Calls Tryd.prog 31 #[.int .i64 s, .int .i64 h, .int .i64 d] w' fun e w'' => e = .returned (.agg #[.int .i64 ku, .int .i64 ks, .int .i64 kh, .int .i64 ka]) ∧ Below w'.heap.size w' w'') := fun w' => cFK' w'
  have cEK : Hid (∀ w' : World, Calls Tryd.prog 32 #[.int .i64 s, .int .i64 h] w' fun e w'' => e = .returned (.agg #[.int .i64 qu, .int .i64 qs, .int .i64 qh, .int .i64 qa]) ∧ Below w'.heap.size w' w'') := fun w' => cEK' w'
  have cG := Lib.hid fun w' => l11Goes_any p s w'
  have cA3 : Hid (p = 3 → ∀ w' : World, Calls Tryd.prog 18 #[.agg #[.int .i64 1, .int .i64 h, .int .i64 d, .int .i64 p, .int .i64 qu, .int .i64 qs, .int .i64 qh, .int .i64 qa, .int .i64 0, .int .i64 ku, .int .i64 ks, .int .i64 kh, .int .i64 ka, .int .i64 0, .slice none 0 0]] w' fun e w'' => e = .returned (.bool zs) ∧ Below w'.heap.size w' w'') := fun hp w' => by
    have h1 := cS w'
    rw [r3 hp] at h1
    exact h1
  have cA4 : Hid (p ≠ 3 → ∀ w' : World, Calls Tryd.prog 18 #[.agg #[.int .i64 1, .int .i64 h, .int .i64 d, .int .i64 p, .int .i64 0, .int .i64 0, .int .i64 0, .int .i64 0, .int .i64 0, .int .i64 ku, .int .i64 ks, .int .i64 kh, .int .i64 ka, .int .i64 0, .slice none 0 0]] w' fun e w'' => e = .returned (.bool zs) ∧ Below w'.heap.size w' w'') := fun hp w' => by
    have h1 := cS w'
    rw [r4 hp] at h1
    exact h1
  generalize goesP p s = zg at G0' G1' G2' cG
  generalize newSeatV h d p s = out at G0' G1' G2' ⊢
  generalize newSeatB h d p s = ob at G0' G1' G2' ⊢
  have G0 := Lib.hid G0'
  have G1 := Lib.hid G1'
  have G3 : Hid (p = 3 → zg = true → zs = true → out = ⟨1, h, d, p, ⟨⟨qu, qs, qh, qa⟩, 0⟩, ⟨⟨ku, ks, kh, ka⟩, 0⟩⟩ ∧ ob = true) := fun hp a b => by
    have h1 := G2' a b
    rw [r3 hp] at h1
    exact h1
  have G4 : Hid (p ≠ 3 → zg = true → zs = true → out = ⟨1, h, d, p, .zero, ⟨⟨ku, ks, kh, ka⟩, 0⟩⟩ ∧ ob = true) := fun hp a b => by
    have h1 := G2' a b
    rw [r4 hp] at h1
    exact h1
  clear G0' G1' G2' cFK' cEK' cS r3 r4
  obtain ⟨W0, hW0⟩ : ∃ W, w.alloc (.cells #[.int .i64 0, .int .i64 0, .int .i64 0, .int .i64 0, .int .i64 0, .int .i64 0, .int .i64 0, .int .i64 0, .int .i64 0, .int .i64 0, .int .i64 0, .int .i64 0, .int .i64 0, .int .i64 0, .slice none 0 0] 32) = W := ⟨_, rfl⟩
  have K0 : Hid (Below w.heap.size w W0) := by rw [← hW0]; exact (Below.refl _ w).alloc (Nat.le_refl _) _
  have R0 : Hid (W0.heap[w.heap.size]? = some (.cells #[.int .i64 0, .int .i64 0, .int .i64 0, .int .i64 0, .int .i64 0, .int .i64 0, .int .i64 0, .int .i64 0, .int .i64 0, .int .i64 0, .int .i64 0, .int .i64 0, .int .i64 0, .int .i64 0, .slice none 0 0] 32)) := by rw [← hW0]; exact heap1 w _
  go_enter Tryd.func8, Tryd.ntmps8
  obtain ⟨V1, hV1⟩ : ∃ V, W0.alloc (.cells #[.int .i64 0, .int .i64 0, .int .i64 0, .int .i64 0, .int .i64 0, .int .i64 0, .int .i64 0, .int .i64 0, .int .i64 0, .int .i64 0, .int .i64 0, .int .i64 0, .int .i64 0, .int .i64 0, .slice none 0 0] 32) = V := ⟨_, rfl⟩
  have ltV1R : w.heap.size < W0.heap.size := blk_in R0.out
  have R1 : Hid (V1.heap[w.heap.size]? = some (.cells #[.int .i64 0, .int .i64 0, .int .i64 0, .int .i64 0, .int .i64 0, .int .i64 0, .int .i64 0, .int .i64 0, .int .i64 0, .int .i64 0, .int .i64 0, .int .i64 0, .int .i64 0, .int .i64 0, .slice none 0 0] 32)) := by rw [← hV1]; exact alloc_blk R0.out
  have hb : Below W0.heap.size W0 V1 := by rw [← hV1]; exact (Below.refl _ W0).alloc (Nat.le_refl _) _
  have K1 := Lib.hid (K0.out.trans (hb.mono K0.out.size))
  have A1 : Hid (V1.heap[W0.heap.size]? = some (.cells #[.int .i64 0, .int .i64 0, .int .i64 0, .int .i64 0, .int .i64 0, .int .i64 0, .int .i64 0, .int .i64 0, .int .i64 0, .int .i64 0, .int .i64 0, .int .i64 0, .int .i64 0, .int .i64 0, .slice none 0 0] 32)) := by rw [← hV1]; exact heap1 W0 _
  have lbV1 : w.heap.size ≤ W0.heap.size := K0.out.size
  clear hb R0 K0
  have R2 : Hid ((V1.setRow W0.heap.size #[.int .i64 1, .int .i64 h, .int .i64 d, .int .i64 p, .int .i64 0, .int .i64 0, .int .i64 0, .int .i64 0, .int .i64 0, .int .i64 0, .int .i64 0, .int .i64 0, .int .i64 0, .int .i64 0, .slice none 0 0]).heap[w.heap.size]? = some (.cells #[.int .i64 0, .int .i64 0, .int .i64 0, .int .i64 0, .int .i64 0, .int .i64 0, .int .i64 0, .int .i64 0, .int .i64 0, .int .i64 0, .int .i64 0, .int .i64 0, .int .i64 0, .int .i64 0, .slice none 0 0] 32)) := (setRow_other _ _ _ _ (by omega)).trans R1.out
  have A2 : Hid ((V1.setRow W0.heap.size #[.int .i64 1, .int .i64 h, .int .i64 d, .int .i64 p, .int .i64 0, .int .i64 0, .int .i64 0, .int .i64 0, .int .i64 0, .int .i64 0, .int .i64 0, .int .i64 0, .int .i64 0, .int .i64 0, .slice none 0 0]).heap[W0.heap.size]? = some (.cells #[.int .i64 1, .int .i64 h, .int .i64 d, .int .i64 p, .int .i64 0, .int .i64 0, .int .i64 0, .int .i64 0, .int .i64 0, .int .i64 0, .int .i64 0, .int .i64 0, .int .i64 0, .int .i64 0, .slice none 0 0] 32)) := setRow_heap _ _ _ _ _ _ A1.out
  have K2 : Hid (Below w.heap.size w (V1.setRow W0.heap.size #[.int .i64 1, .int .i64 h, .int .i64 d, .int .i64 p, .int .i64 0, .int .i64 0, .int .i64 0, .int .i64 0, .int .i64 0, .int .i64 0, .int .i64 0, .int .i64 0, .int .i64 0, .int .i64 0, .slice none 0 0])) := below_setRow K1.out (by omega) _
  go_wp2_with (refine wpList_store_row rfl 32 _ _ rfl (W0.heap.size) #[.int .i64 1, .int .i64 h, .int .i64 d, .int .i64 p, .int .i64 0, .int .i64 0, .int .i64 0, .int .i64 0, .int .i64 0, .int .i64 0, .int .i64 0, .int .i64 0, .int .i64 0, .int .i64 0, .slice none 0 0] rfl rfl 32 _ A1.out (by kernel_rfl) rfl (by simp [Value.oneCell']) ?_)
  clear hW0 hV1 R1 A1 K1
  generalize V1.setRow W0.heap.size #[.int .i64 1, .int .i64 h, .int .i64 d, .int .i64 p, .int .i64 0, .int .i64 0, .int .i64 0, .int .i64 0, .int .i64 0, .int .i64 0, .int .i64 0, .int .i64 0, .int .i64 0, .int .i64 0, .slice none 0 0] = S2 at R2 A2 K2 ⊢
  refine (cFK.out _).mono ?_
  rintro e w3 ⟨rfl, hb⟩
  have R3 := Lib.hid (blk_on hb R2.out)
  have A3 := Lib.hid (blk_on hb A2.out)
  have K3 := Lib.hid (K2.out.trans (hb.mono K2.out.size))
  clear hb R2 A2 K2
  obtain ⟨⟨a0, a1, a2, a3, a4, a5, a6, a7, a8, a9, a10, a11, a12, a13, a14⟩, az0, az1, az2, az3, az4, az5, az6, az7, az8, az9, az10, az11, az12, az13, az14⟩ := blk15 A3.out
  obtain ⟨S4, qS4⟩ : ∃ W, setAll w3 W0.heap.size 9 [.int .i64 ku, .int .i64 ks, .int .i64 kh, .int .i64 ka, .int .i64 0] = W := ⟨_, rfl⟩
  have hS4 : (((((w3.setCell ⟨W0.heap.size, 9, none⟩ (.int .i64 ku)).setCell ⟨W0.heap.size, 10, none⟩ (.int .i64 ks)).setCell ⟨W0.heap.size, 11, none⟩ (.int .i64 kh)).setCell ⟨W0.heap.size, 12, none⟩ (.int .i64 ka)).setCell ⟨W0.heap.size, 13, none⟩ (.int .i64 0)) = S4 := qS4
  have R4 : Hid (S4.heap[w.heap.size]? = some (.cells #[.int .i64 0, .int .i64 0, .int .i64 0, .int .i64 0, .int .i64 0, .int .i64 0, .int .i64 0, .int .i64 0, .int .i64 0, .int .i64 0, .int .i64 0, .int .i64 0, .int .i64 0, .int .i64 0, .slice none 0 0] 32)) := by rw [← qS4]; exact setAll_away (by omega) _ _ R3.out
  have A4 : Hid (S4.heap[W0.heap.size]? = some (.cells #[.int .i64 1, .int .i64 h, .int .i64 d, .int .i64 p, .int .i64 0, .int .i64 0, .int .i64 0, .int .i64 0, .int .i64 0, .int .i64 ku, .int .i64 ks, .int .i64 kh, .int .i64 ka, .int .i64 0, .slice none 0 0] 32)) := by
    rw [← qS4]
    refine (setAll_blk (w := w3) (g := W0.heap.size) [.int .i64 ku, .int .i64 ks, .int .i64 kh, .int .i64 ka, .int .i64 0] 9 A3.out).trans ?_
    refine congrArg (fun z => some (Obj.cells z 32 (0, 0))) (Array.toList_inj.1 ?_)
    rw [overA_toList _ _ _ (by simp)]
    rfl
  have K4 : Hid (Below w.heap.size w S4) := by rw [← qS4]; exact setAll_below (g := W0.heap.size) (by omega) [.int .i64 ku, .int .i64 ks, .int .i64 kh, .int .i64 ka, .int .i64 0] 9 K3.out
  have zS4 : w3.heap.size = S4.heap.size := by rw [← qS4]; exact (setAll_size [.int .i64 ku, .int .i64 ks, .int .i64 kh, .int .i64 ka, .int .i64 0] 9 _).symm
  clear qS4 R3 A3 K3
  by_cases hp : p = 3
  ·
    have hp' : (p == 3) = true := beq_int hp
    have HA3 := Lib.hid (cA3.out hp)
    have HG3 := Lib.hid (G3.out hp)
    clear hp cA3 cA4 G3 G4
    go_wp2_with fail
    clear a0 a1 a2 a3 a4 a5 a6 a7 a8 a9 a10 a11 a12 a13 a14 az0 az1 az2 az3 az4 az5 az6 az7 az8 az9 az10 az11 az12 az13 az14
    clear hS4
    refine (cEK.out _).mono ?_
    rintro e w5 ⟨rfl, hb⟩
    have R5 := Lib.hid (blk_on hb R4.out)
    have A5 := Lib.hid (blk_on hb A4.out)
    have K5 := Lib.hid (K4.out.trans (hb.mono K4.out.size))
    clear hb R4 A4 K4
    obtain ⟨⟨b0, b1, b2, b3, b4, b5, b6, b7, b8, b9, b10, b11, b12, b13, b14⟩, bz0, bz1, bz2, bz3, bz4, bz5, bz6, bz7, bz8, bz9, bz10, bz11, bz12, bz13, bz14⟩ := blk15 A5.out
    obtain ⟨S6, qS6⟩ : ∃ W, setAll w5 W0.heap.size 4 [.int .i64 qu, .int .i64 qs, .int .i64 qh, .int .i64 qa, .int .i64 0] = W := ⟨_, rfl⟩
    have hS6 : (((((w5.setCell ⟨W0.heap.size, 4, none⟩ (.int .i64 qu)).setCell ⟨W0.heap.size, 5, none⟩ (.int .i64 qs)).setCell ⟨W0.heap.size, 6, none⟩ (.int .i64 qh)).setCell ⟨W0.heap.size, 7, none⟩ (.int .i64 qa)).setCell ⟨W0.heap.size, 8, none⟩ (.int .i64 0)) = S6 := qS6
    have R6 : Hid (S6.heap[w.heap.size]? = some (.cells #[.int .i64 0, .int .i64 0, .int .i64 0, .int .i64 0, .int .i64 0, .int .i64 0, .int .i64 0, .int .i64 0, .int .i64 0, .int .i64 0, .int .i64 0, .int .i64 0, .int .i64 0, .int .i64 0, .slice none 0 0] 32)) := by rw [← qS6]; exact setAll_away (by omega) _ _ R5.out
    have A6 : Hid (S6.heap[W0.heap.size]? = some (.cells #[.int .i64 1, .int .i64 h, .int .i64 d, .int .i64 p, .int .i64 qu, .int .i64 qs, .int .i64 qh, .int .i64 qa, .int .i64 0, .int .i64 ku, .int .i64 ks, .int .i64 kh, .int .i64 ka, .int .i64 0, .slice none 0 0] 32)) := by
      rw [← qS6]
      refine (setAll_blk (w := w5) (g := W0.heap.size) [.int .i64 qu, .int .i64 qs, .int .i64 qh, .int .i64 qa, .int .i64 0] 4 A5.out).trans ?_
      refine congrArg (fun z => some (Obj.cells z 32 (0, 0))) (Array.toList_inj.1 ?_)
      rw [overA_toList _ _ _ (by simp)]
      rfl
    have K6 : Hid (Below w.heap.size w S6) := by rw [← qS6]; exact setAll_below (g := W0.heap.size) (by omega) [.int .i64 qu, .int .i64 qs, .int .i64 qh, .int .i64 qa, .int .i64 0] 4 K5.out
    have zS6 : w5.heap.size = S6.heap.size := by rw [← qS6]; exact (setAll_size [.int .i64 qu, .int .i64 qs, .int .i64 qh, .int .i64 qa, .int .i64 0] 4 _).symm
    clear qS6 R5 A5 K5
    go_wp2_with fail
    clear b0 b1 b2 b3 b4 b5 b6 b7 b8 b9 b10 b11 b12 b13 b14 bz0 bz1 bz2 bz3 bz4 bz5 bz6 bz7 bz8 bz9 bz10 bz11 bz12 bz13 bz14
    clear hS6
    refine (cG.out _).mono ?_
    rintro e w7 ⟨rfl, hb⟩
    have R7 := Lib.hid (blk_on hb R6.out)
    have A7 := Lib.hid (blk_on hb A6.out)
    have K7 := Lib.hid (K6.out.trans (hb.mono K6.out.size))
    clear hb R6 A6 K6
    cases zg with
    | false =>
      have HE := Lib.hid (G0.out rfl)
      go_wp2_with (refine wpList_store_row rfl 32 _ _ rfl (w.heap.size) #[.int .i64 0, .int .i64 0, .int .i64 0, .int .i64 0, .int .i64 0, .int .i64 0, .int .i64 0, .int .i64 0, .int .i64 0, .int .i64 0, .int .i64 0, .int .i64 0, .int .i64 0, .int .i64 0, .slice none 0 0] rfl rfl 32 _ R7.out (by kernel_rfl) rfl (by simp [Value.oneCell']) ?_)
      exact row_ret2 (r := w.heap.size) (cs := #[.int .i64 0, .int .i64 0, .int .i64 0, .int .i64 0, .int .i64 0, .int .i64 0, .int .i64 0, .int .i64 0, .int .i64 0, .int .i64 0, .int .i64 0, .int .i64 0, .int .i64 0, .int .i64 0, .slice none 0 0]) rfl rfl rfl (setRow_heap _ _ _ _ _ _ R7.out) Tryd.underlying32 rfl (by kernel_rfl) rfl ⟨by rw [HE.out.1, HE.out.2]; rfl, below_setRow K7.out (by omega) _⟩
    | true =>
      go_wp2_with (refine wpList_load_wanted rfl 32 _ rfl (W0.heap.size) rfl 32 _ (0, 0) _ A7.out Tryd.underlying32 rfl (by kernel_rfl) ?_)
      refine (HA3.out _).mono ?_
      rintro e w8 ⟨rfl, hb⟩
      have R8 := Lib.hid (blk_on hb R7.out)
      have A8 := Lib.hid (blk_on hb A7.out)
      have K8 := Lib.hid (K7.out.trans (hb.mono K7.out.size))
      clear hb R7 A7 K7
      cases zs with
      | false =>
        have HE := Lib.hid (G1.out (by trivial) rfl)
        go_wp2_with (refine wpList_store_row rfl 32 _ _ rfl (w.heap.size) #[.int .i64 0, .int .i64 0, .int .i64 0, .int .i64 0, .int .i64 0, .int .i64 0, .int .i64 0, .int .i64 0, .int .i64 0, .int .i64 0, .int .i64 0, .int .i64 0, .int .i64 0, .int .i64 0, .slice none 0 0] rfl rfl 32 _ R8.out (by kernel_rfl) rfl (by simp [Value.oneCell']) ?_)
        exact row_ret2 (r := w.heap.size) (cs := #[.int .i64 0, .int .i64 0, .int .i64 0, .int .i64 0, .int .i64 0, .int .i64 0, .int .i64 0, .int .i64 0, .int .i64 0, .int .i64 0, .int .i64 0, .int .i64 0, .int .i64 0, .int .i64 0, .slice none 0 0]) rfl rfl rfl (setRow_heap _ _ _ _ _ _ R8.out) Tryd.underlying32 rfl (by kernel_rfl) rfl ⟨by rw [HE.out.1, HE.out.2]; rfl, below_setRow K8.out (by omega) _⟩
      | true =>
        have HE := Lib.hid (HG3.out (by trivial) rfl)
        go_wp2_with (first | (refine wpList_load_row rfl 32 _ rfl (W0.heap.size) rfl 32 _ (0, 0) _ A8.out Tryd.underlying32 rfl (by kernel_rfl) ?_) | (refine wpList_store_row rfl 32 _ _ rfl (w.heap.size) #[.int .i64 1, .int .i64 h, .int .i64 d, .int .i64 p, .int .i64 qu, .int .i64 qs, .int .i64 qh, .int .i64 qa, .int .i64 0, .int .i64 ku, .int .i64 ks, .int .i64 kh, .int .i64 ka, .int .i64 0, .slice none 0 0] rfl rfl 32 _ R8.out (by kernel_rfl) rfl (by simp [Value.oneCell']) ?_))
        exact row_ret2 (r := w.heap.size) (cs := #[.int .i64 1, .int .i64 h, .int .i64 d, .int .i64 p, .int .i64 qu, .int .i64 qs, .int .i64 qh, .int .i64 qa, .int .i64 0, .int .i64 ku, .int .i64 ks, .int .i64 kh, .int .i64 ka, .int .i64 0, .slice none 0 0]) rfl rfl rfl (setRow_heap _ _ _ _ _ _ R8.out) Tryd.underlying32 rfl (by kernel_rfl) rfl ⟨by rw [HE.out.1, HE.out.2]; rfl, below_setRow K8.out (by omega) _⟩
  ·
    have hp' : (p == 3) = false := bne_int hp
    have HA3 := Lib.hid (cA4.out hp)
    have HG3 := Lib.hid (G4.out hp)
    clear hp cA3 cA4 G3 G4
    go_wp2_with fail
    clear a0 a1 a2 a3 a4 a5 a6 a7 a8 a9 a10 a11 a12 a13 a14 az0 az1 az2 az3 az4 az5 az6 az7 az8 az9 az10 az11 az12 az13 az14
    clear hS4
    refine (cG.out _).mono ?_
    rintro e w5 ⟨rfl, hb⟩
    have R5 := Lib.hid (blk_on hb R4.out)
    have A5 := Lib.hid (blk_on hb A4.out)
    have K5 := Lib.hid (K4.out.trans (hb.mono K4.out.size))
    clear hb R4 A4 K4
    cases zg with
    | false =>
      have HE := Lib.hid (G0.out rfl)
      go_wp2_with (refine wpList_store_row rfl 32 _ _ rfl (w.heap.size) #[.int .i64 0, .int .i64 0, .int .i64 0, .int .i64 0, .int .i64 0, .int .i64 0, .int .i64 0, .int .i64 0, .int .i64 0, .int .i64 0, .int .i64 0, .int .i64 0, .int .i64 0, .int .i64 0, .slice none 0 0] rfl rfl 32 _ R5.out (by kernel_rfl) rfl (by simp [Value.oneCell']) ?_)
      exact row_ret2 (r := w.heap.size) (cs := #[.int .i64 0, .int .i64 0, .int .i64 0, .int .i64 0, .int .i64 0, .int .i64 0, .int .i64 0, .int .i64 0, .int .i64 0, .int .i64 0, .int .i64 0, .int .i64 0, .int .i64 0, .int .i64 0, .slice none 0 0]) rfl rfl rfl (setRow_heap _ _ _ _ _ _ R5.out) Tryd.underlying32 rfl (by kernel_rfl) rfl ⟨by rw [HE.out.1, HE.out.2]; rfl, below_setRow K5.out (by omega) _⟩
    | true =>
      go_wp2_with (refine wpList_load_wanted rfl 32 _ rfl (W0.heap.size) rfl 32 _ (0, 0) _ A5.out Tryd.underlying32 rfl (by kernel_rfl) ?_)
      refine (HA3.out _).mono ?_
      rintro e w6 ⟨rfl, hb⟩
      have R6 := Lib.hid (blk_on hb R5.out)
      have A6 := Lib.hid (blk_on hb A5.out)
      have K6 := Lib.hid (K5.out.trans (hb.mono K5.out.size))
      clear hb R5 A5 K5
      cases zs with
      | false =>
        have HE := Lib.hid (G1.out (by trivial) rfl)
        go_wp2_with (refine wpList_store_row rfl 32 _ _ rfl (w.heap.size) #[.int .i64 0, .int .i64 0, .int .i64 0, .int .i64 0, .int .i64 0, .int .i64 0, .int .i64 0, .int .i64 0, .int .i64 0, .int .i64 0, .int .i64 0, .int .i64 0, .int .i64 0, .int .i64 0, .slice none 0 0] rfl rfl 32 _ R6.out (by kernel_rfl) rfl (by simp [Value.oneCell']) ?_)
        exact row_ret2 (r := w.heap.size) (cs := #[.int .i64 0, .int .i64 0, .int .i64 0, .int .i64 0, .int .i64 0, .int .i64 0, .int .i64 0, .int .i64 0, .int .i64 0, .int .i64 0, .int .i64 0, .int .i64 0, .int .i64 0, .int .i64 0, .slice none 0 0]) rfl rfl rfl (setRow_heap _ _ _ _ _ _ R6.out) Tryd.underlying32 rfl (by kernel_rfl) rfl ⟨by rw [HE.out.1, HE.out.2]; rfl, below_setRow K6.out (by omega) _⟩
      | true =>
        have HE := Lib.hid (HG3.out (by trivial) rfl)
        go_wp2_with (first | (refine wpList_load_row rfl 32 _ rfl (W0.heap.size) rfl 32 _ (0, 0) _ A6.out Tryd.underlying32 rfl (by kernel_rfl) ?_) | (refine wpList_store_row rfl 32 _ _ rfl (w.heap.size) #[.int .i64 1, .int .i64 h, .int .i64 d, .int .i64 p, .int .i64 0, .int .i64 0, .int .i64 0, .int .i64 0, .int .i64 0, .int .i64 ku, .int .i64 ks, .int .i64 kh, .int .i64 ka, .int .i64 0, .slice none 0 0] rfl rfl 32 _ R6.out (by kernel_rfl) rfl (by simp [Value.oneCell']) ?_))
        exact row_ret2 (r := w.heap.size) (cs := #[.int .i64 1, .int .i64 h, .int .i64 d, .int .i64 p, .int .i64 0, .int .i64 0, .int .i64 0, .int .i64 0, .int .i64 0, .int .i64 ku, .int .i64 ks, .int .i64 kh, .int .i64 ka, .int .i64 0, .slice none 0 0]) rfl rfl rfl (setRow_heap _ _ _ _ _ _ R6.out) Tryd.underlying32 rfl (by kernel_rfl) rfl ⟨by rw [HE.out.1, HE.out.2]; rfl, below_setRow K6.out (by omega) _⟩

end Go.Proofs.YtchdmmlkgglmcaaDoor.Tx
namespace Go.Proofs.YtchdmmlkgglmcaaDoor.Tx
open Go.RowKit

/-- The block of an address. -/
def blkA : Option Addr → Option Nat
  | some a => some a.block
  | none => none
section
variable {α : Type} [Cells α] {w w' : World} {base n cap : Nat} {T : TypeId} {A : Option Addr} {l : List α}
def OutE (w : World) (base : Nat) (T : TypeId) (A : Option Addr) (n cap : Nat) (l : List α) : Prop :=
  (A = none ∧ n = 0 ∧ cap = 0 ∧ l = []) ∨ ∃ g, A = some ⟨g, 0, none⟩ ∧ n = l.length ∧ MadeE w base T l g cap
theorem OutE.len (h : OutE w base T A n cap l) : l.length = n := by
  rcases h with ⟨_, rfl, _, rfl⟩ | ⟨g, _, e, _⟩
  · rfl
  · exact e.symm
theorem OutE.lt (h : OutE w base T A n cap l) {k : Nat} (e : blkA A = some k) : base ≤ k ∧ k < w.heap.size := by
  rcases h with ⟨rfl, _⟩ | ⟨g, rfl, _, m⟩
  · cases e
  · obtain rfl := Option.some.inj e
    exact m.base
theorem OutE.heap (h : OutE w base T A n cap l) (he : ∀ k, blkA A = some k → w'.heap[k]? = w.heap[k]?) : OutE w' base T A n cap l := by
  rcases h with h | ⟨g, rfl, e, m⟩
  · exact .inl h
  · exact .inr ⟨g, rfl, e, MadeG.heap m (he g rfl)⟩
theorem OutE.on (h : OutE w base T A n cap l) (b : Below w.heap.size w w') : OutE w' base T A n cap l := h.heap fun k e => b.block k (h.lt e).2
theorem OutE.kept {row : Option Nat} (h : OutE w base T A n cap l) (gr : w.grownBy w' row) (hne : ∀ k, blkA A = some k → row ≠ some k) : OutE w' base T A n cap l := h.heap fun k e => gr.block k (h.lt e).2 (fun e2 => hne k e e2.symm)
theorem OutE.mono {base' : Nat} (h : OutE w base T A n cap l) (hb : base' ≤ base) : OutE w base' T A n cap l := by
  rcases h with h | ⟨g, rfl, e, m⟩
  · exact .inl h
  · exact .inr ⟨g, rfl, e, MadeG.mono m hb⟩
theorem OutE.elts (h : OutE w base T A n cap l) : EltsO w w.heap.size A n l := by
  rcases h with ⟨rfl, rfl, _, rfl⟩ | ⟨g, rfl, rfl, m⟩
  · exact ⟨rfl, fun h => absurd h (by omega)⟩
  · exact MadeG.elts m
end
theorem grown_nil {w w' : World} (b : Below w.heap.size w w') : w.grownBy w' none := ⟨b.os, b.tape, b.output, b.size, fun i hi _ => b.block i hi⟩

end Go.Proofs.YtchdmmlkgglmcaaDoor.Tx
namespace Go.Proofs.YtchdmmlkgglmcaaDoor.Tx
open Go.RowKit

section
variable {α : Type} [Cells α] {w w' : World} {base n cap : Nat} {T : TypeId} {A : Option Addr} {l : List α}
theorem OutE.form (h : OutE w base T A n cap l) : (A = none ∧ n = 0) ∨ ∃ g, A = some ⟨g, 0, none⟩ ∧ g < w.heap.size ∧ There w g 0 (n * Cells.sz α) := by
  rcases h with ⟨rfl, rfl, _⟩ | ⟨g, rfl, rfl, m⟩
  · exact .inl ⟨rfl, rfl⟩
  · exact .inr ⟨g, rfl, m.base.2, made_there m⟩
/-- What is written into such a list. -/
def FillO (w : World) (A : Option Addr) (n m : Nat) (f : Nat → Value) : Prop := (A = none ∧ n = 0) ∨ ∃ g, A = some ⟨g, 0, none⟩ ∧ g < w.heap.size ∧ Filled w g f m
theorem FillO.heap {n m : Nat} {f : Nat → Value} (h : FillO w A n m f) (hs : w.heap.size ≤ w'.heap.size) (he : ∀ k, blkA A = some k → w'.heap[k]? = w.heap[k]?) : FillO w' A n m f := by
  rcases h with h | ⟨g, rfl, hg, hf⟩
  · exact .inl h
  · exact .inr ⟨g, rfl, by omega, fun t ht => (World.cell?_of_block (w := w) (a := ⟨g, t, none⟩) (he g rfl)).trans (hf t ht)⟩
theorem FillO.lt {n m : Nat} {f : Nat → Value} (h : FillO w A n m f) {k : Nat} (e : blkA A = some k) : k < w.heap.size := by
  rcases h with ⟨rfl, _⟩ | ⟨g, rfl, hg, _⟩
  · cases e
  · obtain rfl := Option.some.inj e
    exact hg
theorem FillO.on {n m : Nat} {f : Nat → Value} (h : FillO w A n m f) (b : Below w.heap.size w w') : FillO w' A n m f := h.heap b.size fun k e => b.block k (h.lt e)
end

end Go.Proofs.YtchdmmlkgglmcaaDoor.Tx
namespace Go.Proofs.YtchdmmlkgglmcaaDoor.Tx
open Go.RowKit

theorem LogOut.out {w : World} {base : Nat} {A : Option Addr} {n cap : Nat} {l : List WordV} (h : LogOut w base A n cap l) : OutE w base 69 A n cap l := h
theorem hearL_small (N : Nat) (s : SeatV) (l : List WordV) (b : BoxV) (hl : l.length ≤ N) (hN : 60 ≤ N) : (hearL s l b).length ≤ N := by
  have h1 : hearC s l.length b = 1 → l.length < 60 := fun h => by
    rw [hearC] at h
    repeat' split at h
    all_goals omega
  have h3 : hearC s l.length b = 3 → l.length < 60 := fun h => by
    rw [hearC] at h
    repeat' split at h
    all_goals first | omega | (rename_i h2; rw [Bool.and_eq_true, decide_eq_true_iff] at h2; exact h2.2)
  rw [hearL]
  split
  · split
    · rename_i h
      have := h1 h
      simp; omega
    · split
      · rename_i h
        have := h3 h
        simp; omega
      · exact hl
  · simp
theorem hearL_length (s : SeatV) (l : List WordV) (b : BoxV) (hl : l.length ≤ 1048576) : (hearL s l b).length ≤ 1048576 := hearL_small 1048576 s l b hl (by omega)
theorem markSeat_out (s : SeatV) (A : Option Addr) (n cap k base : Nat) (l : List WordV) (hk : k ≤ 4194304) (hn : n ≤ 1048576) (w : World) (h : OutE w base 69 A n cap l) :
    Calls Tryd.prog 25 #[s.val A n cap, .int .i64 (k : Int)] w fun e w' => e = .returned (.int .i64 ((k + n * 2 : Nat) : Int)) ∧ FillO w' A n (n * 2) (markF wordKs k) ∧ w.grownBy w' (blkA A) := by
  rcases h.form with ⟨rfl, rfl⟩ | ⟨g, rfl, hg, ht⟩
  · exact (markSeat_nil s none cap k w).mono fun e w' ⟨he, hb⟩ => ⟨he, .inl ⟨rfl, rfl⟩, grown_nil hb⟩
  · exact (markSeat_any s g n cap k (by omega) w hg ht).mono fun e w' ⟨he, hf, hb⟩ => ⟨he, .inr ⟨g, rfl, Nat.lt_of_lt_of_le hg hb.size, hf⟩, hb⟩
theorem heldSeat_out (s : SeatV) (A : Option Addr) (n cap k : Nat) (hk : k ≤ 4194304) (hn : n ≤ 1048576) (w : World) (h : FillO w A n (n * 2) (markF wordKs k)) :
    Calls Tryd.prog 26 #[s.val A n cap, .int .i64 (k : Int)] w fun e w' => e = .returned (.int .i64 ((k + n * 2 : Nat) : Int)) ∧ Below w.heap.size w w' := by
  rcases h with ⟨rfl, rfl⟩ | ⟨g, rfl, hg, hf⟩
  · exact heldSeat_nil s none cap k w
  · exact heldSeat_any s g n cap k (by omega) w hg hf

end Go.Proofs.YtchdmmlkgglmcaaDoor.Tx
namespace Go.Proofs.YtchdmmlkgglmcaaDoor.Tx
open Go.RowKit

/-- What a draw of a seat and boxes leaves. -/
def SeatDrawn (w : World) (g : Nat) (A : Option Addr) (n cap : Nat) (e : Ending) (w' : World) : Prop :=
  ∃ (s : SeatV) (B : Option Addr) (m mc : Nat) (l : List WordV) (bs : List BoxV) (gb cb : Nat) (i h : Int), m ≤ 100 ∧ bs.length ≤ 100 ∧ e = .returned (.tuple #[s.val B m mc, .slice (some ⟨gb, 0, none⟩) bs.length cb]) ∧ OutE w' w.heap.size 69 B m mc l ∧ MadeB w' w.heap.size bs gb cb ∧ Cur w' g A n cap i h ∧ w.grownBy w' (some g)
theorem own_cons {w : World} {B g c : Nat} {x : ByteArray} {ss : List ByteArray} (h : w.ownsRow B 9 1 (.slice (some ⟨g, 0, none⟩) (1 + ss.length) c) (1 + ss.length) ([.string x] ++ ss.map Value.string)) : MadeS w B (x :: ss) g c := by
  rw [Nat.add_comm] at h
  exact ⟨h⟩
theorem own_one {w : World} {B g : Nat} {t : TypeId} {v : Value} (hb : w.heap[g]? = some (.cells #[v] t (0, 0))) (hle : B ≤ g) : w.ownsRow B t 1 (.slice (some ⟨g, 0, none⟩) 1 1) 1 [v] :=
  ⟨rfl, .inr ⟨g, 1, #[v], rfl, hle, hb, Nat.le_refl _, by unfold maxLen; omega, rfl, rfl⟩⟩
theorem own_boxes {w : World} {B g c : Nat} {xs ys : List BoxV} (h : w.ownsRow B 43 7 (.slice (some ⟨g, 0, none⟩) (xs.length + ys.length) c) (xs.length + ys.length) (xs.flatMap BoxV.cells ++ ys.flatMap BoxV.cells)) : MadeB w B (xs ++ ys) g c := by
  refine ⟨?_⟩
  rw [List.length_append, List.flatMap_append]
  exact h
theorem news_boxes {w : World} {B g c : Nat} {bs : List BoxV} (h : MadeB w B bs g c) : ∀ j u, (bs.flatMap BoxV.cells)[j]? = some u → w.cell? ((⟨g, 0, none⟩ : Addr).add j) = some u := fun j u hu => by
  rw [Go.WideShapes.add_plain, Nat.zero_add]
  exact h.cell hu
theorem news_strs {w : World} {B g c : Nat} {ss : List ByteArray} (h : MadeS w B ss g c) : ∀ j u, (ss.map Value.string)[j]? = some u → w.cell? ((⟨g, 0, none⟩ : Addr).add j) = some u := fun j u hu => by
  rw [Go.WideShapes.add_plain, Nat.zero_add]
  exact h.cell hu

end Go.Proofs.YtchdmmlkgglmcaaDoor.Tx
namespace Go.Proofs.YtchdmmlkgglmcaaDoor.Tx
open Go.RowKit

theorem box_cells {w : World} {B g c k : Nat} {bs : List BoxV} {x : BoxV} (h : MadeB w B bs g c) (hk : bs[k]? = some x) :
    w.cell? ⟨g, k * 7, none⟩ = some (.int .i64 x.k.u) ∧ w.cell? ⟨g, k * 7 + 1, none⟩ = some (.int .i64 x.k.s) ∧ w.cell? ⟨g, k * 7 + 2, none⟩ = some (.int .i64 x.k.h) ∧ w.cell? ⟨g, k * 7 + 3, none⟩ = some (.int .i64 x.k.a) ∧ w.cell? ⟨g, k * 7 + 4, none⟩ = some (.int .i64 x.no) ∧ w.cell? ⟨g, k * 7 + 5, none⟩ = some (.string x.t) ∧ w.cell? ⟨g, k * 7 + 6, none⟩ = some (.bool x.sp) := by
  have hl := (List.getElem?_eq_some_iff.1 hk).1
  have key : ∀ i, i < 7 → w.cell? ⟨g, k * 7 + i, none⟩ = (BoxV.cells x)[i]? := fun i hi => by
    have h1 := flat_get bs k i hl hi
    rw [hk, Option.getD_some] at h1
    have h2 : (BoxV.cells x)[i]? = some ((BoxV.cells x)[i]'(by simpa [BoxV.cells] using hi)) := List.getElem?_eq_getElem _
    rw [h2]
    exact h.cell (h1.trans h2)
  exact ⟨key 0 (by omega), key 1 (by omega), key 2 (by omega), key 3 (by omega), key 4 (by omega), key 5 (by omega), key 6 (by omega)⟩
theorem made_cells (n : Nat) : (madeCells #[.string ⟨#[]⟩, .bool false] (n * 2)).toList = (List.replicate n WordV.zero).flatMap Cells.cells := by
  refine List.ext_getElem? fun i => ?_
  by_cases hi : i < n * 2
  · have h1 := flat_at (List.replicate n WordV.zero) (i / 2) WordV.zero (by rw [List.getElem?_replicate, if_pos (by omega)]) (i % 2) (Nat.mod_lt _ (by decide))
    have e : i / 2 * Cells.sz WordV + i % 2 = i := by show i / 2 * 2 + i % 2 = i; omega
    rw [e] at h1
    rw [h1]
    have h2 : i % 2 = 0 ∨ i % 2 = 1 := by omega
    rcases h2 with h2 | h2 <;> simp [madeCells, hi, h2] <;> rfl
  · rw [List.getElem?_eq_none (by simp [size_madeCells]; omega), List.getElem?_eq_none (by rw [flat_len, List.length_replicate]; show n * 2 ≤ i; omega)]
theorem make_words (n : Nat) (k : Int) (hk : k = (n : Int)) (hn : n ≤ 1000) (w : World) : (Instr.makeSlice 30 (.int .i64 k) (.int .i64 k)).run Tryd.prog w = .ok (.slice (some ⟨w.heap.size, 0, none⟩) n n) (w.alloc (.cells (madeCells #[.string ⟨#[]⟩, .bool false] (n * 2)) 69)) := by
  obtain ⟨i, by0, hi, hz0, hz1, hz2, hby⟩ := infoWordE
  subst hk
  have hb : (i.bytes : Int) * (n : Int) ≤ 281474976710656 := by
    rw [hz2]
    have : by0 * n ≤ 200 * 1000 := Nat.mul_le_mul hby hn
    omega
  have := run_make (P := Tryd.prog) w 30 69 i _ Tryd.underlying30 hi hz0 .i64 .i64 n n (by omega) (Int.le_refl _) hb (by omega)
  have hzc : WordV.zero.val.cells = #[.string ⟨#[]⟩, .bool false] := rfl
  rw [hz1, hzc] at this
  simpa using this
theorem made_words (n : Nat) (hn : n ≤ 1000) (w : World) : MadeE (w.alloc (.cells (madeCells #[.string ⟨#[]⟩, .bool false] (n * 2)) 69)) w.heap.size 69 (List.replicate n WordV.zero) w.heap.size n := by
  have hl : ((List.replicate n WordV.zero).flatMap Cells.cells).length = n * 2 := by rw [flat_len, List.length_replicate]; rfl
  refine ⟨⟨by rw [flat_len], .inr ⟨w.heap.size, n, _, by rw [List.length_replicate], Nat.le_refl _, heap1 w _, by rw [List.length_replicate]; exact Nat.le_refl _, by unfold maxLen; omega, by rw [size_madeCells]; rfl, ?_⟩⟩⟩
  rw [made_cells, List.length_replicate]
  exact List.take_of_length_le (by rw [hl]; exact Nat.le_refl _)

end Go.Proofs.YtchdmmlkgglmcaaDoor.Tx
namespace Go.Proofs.YtchdmmlkgglmcaaDoor.Tx
open Go.RowKit

end Go.Proofs.YtchdmmlkgglmcaaDoor.Tx
namespace Go.Proofs.YtchdmmlkgglmcaaDoor.Tx
open Go.RowKit

/-- What a draw of an answer and a secret leaves. -/
def AnsDrawn (w : World) (g : Nat) (A : Option Addr) (n cap : Nat) (e : Ending) (w' : World) : Prop :=
  ∃ (a : AnsV) (s i h : Int), (0 ≤ a.p ∧ a.p ≤ 5) ∧ e = .returned (.tuple #[a.val, .int .i64 s]) ∧ Cur w' g A n cap i h ∧ w.grownBy w' (some g)
/-- What the draws at the face leave. -/
def AnsingOut (w : World) (e : Ending) (w' : World) : Prop := ∃ h d p s : Int, (0 ≤ p ∧ p ≤ 5) ∧ e = .returned (.tuple #[.int .i64 h, .int .i64 d, .int .i64 p, .int .i64 s]) ∧ Below w.heap.size w w'
def ProvesOut (w : World) (e : Ending) (w' : World) : Prop := ∃ (a : AnsV) (s : Int), (0 ≤ a.p ∧ a.p ≤ 5) ∧ e = .returned (.tuple #[a.val, .int .i64 s]) ∧ Below w.heap.size w w'

set_option maxRecDepth 100000 in
set_option maxHeartbeats 8000000 in
theorem DrawAnswering_any (w : World) (A : Option Addr) (n cap : Nat) (hn : n ≤ 4096) (hb : BytesAt w w.heap.size A n) :
    Calls Tryd.prog 27 #[.slice A n cap] w (AnsingOut w) := by
  have K := Lib.hid (Below.refl w.heap.size w)
  have BT := Lib.hid hb
  clear hb
  go_enter Tryd.func27, Tryd.ntmps27
  go_wp2_with fail
  refine (l1New_any _ A n cap hn (BT.out.up K.out.size)).mono ?_
  rintro e w1 ⟨rfl, h0, c, b⟩
  replace BT := Lib.hid (BT.out.below (b.mono K.out.size))
  replace K := Lib.hid (K.out.trans (b.mono K.out.size))
  have C := Lib.hid c
  have hcl := c.lt
  have sw1 := b.size
  have sK := K.out.size
  clear b c
  go_wp2_with fail
  refine (l1From_any _ _ A n cap 0 h0 0 5 hn (by omega) (by omega) (by omega) (by omega) C.out).mono ?_
  rintro e w2 ⟨p, i2, h2, ⟨hp0, hp1⟩, rfl, c, b⟩
  replace BT := Lib.hid (BT.out.below ((Below.refl _ _).grown b K.out.size (fun k e => by have e1 := Option.some.inj e; omega)))
  replace K := Lib.hid (below_off K.out b ⟨by omega, K.out.size⟩)
  replace C := Lib.hid c
  have sw2 := b.size
  clear b c
  go_wp2_with fail
  refine (l1Below_any _ _ A n cap i2 h2 3 hn (by omega) (by omega) C.out).mono ?_
  rintro e w3 ⟨s, i3, h3, ⟨_, _⟩, rfl, c, b⟩
  replace BT := Lib.hid (BT.out.below ((Below.refl _ _).grown b K.out.size (fun k e => by have e1 := Option.some.inj e; omega)))
  replace K := Lib.hid (below_off K.out b ⟨by omega, K.out.size⟩)
  replace C := Lib.hid c
  have sw3 := b.size
  clear b c
  cases hq : p == 1
  · go_wp2_with fail
    refine (l2DrawAny_any _ _ A n cap i3 h3 hn C.out).mono ?_
    rintro e w5 ⟨y, i5, h5, ⟨_, _⟩, rfl, c, b⟩
    replace BT := Lib.hid (BT.out.below ((Below.refl _ _).grown b K.out.size (fun k e => by have e1 := Option.some.inj e; omega)))
    replace K := Lib.hid (below_off K.out b ⟨by omega, K.out.size⟩)
    replace C := Lib.hid c
    have sw5 := b.size
    clear b c
    go_wp2_with fail
    refine (l2DrawAny_any _ _ A n cap i5 h5 hn C.out).mono ?_
    rintro e w6 ⟨d, i6, h6, ⟨_, _⟩, rfl, c, b⟩
    replace BT := Lib.hid (BT.out.below ((Below.refl _ _).grown b K.out.size (fun k e => by have e1 := Option.some.inj e; omega)))
    replace K := Lib.hid (below_off K.out b ⟨by omega, K.out.size⟩)
    replace C := Lib.hid c
    have sw6 := b.size
    clear b c
    go_wp2
    refine bodyPost_ret (v := .tuple #[.int .i64 y, .int .i64 d, .int .i64 p, .int .i64 s]) ?_ rfl ⟨y, d, p, s, ⟨hp0, hp1⟩, rfl, K.out⟩
    simp [results, Tryd.f27, go_sem]
  · go_wp2_with fail
    refine (l1Once_any _ _ A n cap i3 h3 4 hn (by omega) (by omega) C.out).mono ?_
    rintro e w4 ⟨o, i4, h4, rfl, c, b⟩
    replace BT := Lib.hid (BT.out.below ((Below.refl _ _).grown b K.out.size (fun k e => by have e1 := Option.some.inj e; omega)))
    replace K := Lib.hid (below_off K.out b ⟨by omega, K.out.size⟩)
    replace C := Lib.hid c
    have sw4 := b.size
    clear b c
    cases o with
    | false =>
      go_wp2_with fail
      refine (l2DrawAny_any _ _ A n cap i4 h4 hn C.out).mono ?_
      rintro e w5 ⟨y, i5, h5, ⟨_, _⟩, rfl, c, b⟩
      replace BT := Lib.hid (BT.out.below ((Below.refl _ _).grown b K.out.size (fun k e => by have e1 := Option.some.inj e; omega)))
      replace K := Lib.hid (below_off K.out b ⟨by omega, K.out.size⟩)
      replace C := Lib.hid c
      have sw5 := b.size
      clear b c
      go_wp2_with fail
      refine (l2DrawAny_any _ _ A n cap i5 h5 hn C.out).mono ?_
      rintro e w6 ⟨d, i6, h6, ⟨_, _⟩, rfl, c, b⟩
      replace BT := Lib.hid (BT.out.below ((Below.refl _ _).grown b K.out.size (fun k e => by have e1 := Option.some.inj e; omega)))
      replace K := Lib.hid (below_off K.out b ⟨by omega, K.out.size⟩)
      replace C := Lib.hid c
      have sw6 := b.size
      clear b c
      go_wp2
      refine bodyPost_ret (v := .tuple #[.int .i64 y, .int .i64 d, .int .i64 p, .int .i64 0]) ?_ rfl ⟨y, d, p, 0, ⟨hp0, hp1⟩, rfl, K.out⟩
      simp [results, Tryd.f27, go_sem]
    | true =>
      go_wp2_with fail
      refine (l2DrawAny_any _ _ A n cap i4 h4 hn C.out).mono ?_
      rintro e w5 ⟨y, i5, h5, ⟨_, _⟩, rfl, c, b⟩
      replace BT := Lib.hid (BT.out.below ((Below.refl _ _).grown b K.out.size (fun k e => by have e1 := Option.some.inj e; omega)))
      replace K := Lib.hid (below_off K.out b ⟨by omega, K.out.size⟩)
      replace C := Lib.hid c
      have sw5 := b.size
      clear b c
      go_wp2_with fail
      refine (l2DrawAny_any _ _ A n cap i5 h5 hn C.out).mono ?_
      rintro e w6 ⟨d, i6, h6, ⟨_, _⟩, rfl, c, b⟩
      replace BT := Lib.hid (BT.out.below ((Below.refl _ _).grown b K.out.size (fun k e => by have e1 := Option.some.inj e; omega)))
      replace K := Lib.hid (below_off K.out b ⟨by omega, K.out.size⟩)
      replace C := Lib.hid c
      have sw6 := b.size
      clear b c
      go_wp2
      refine bodyPost_ret (v := .tuple #[.int .i64 y, .int .i64 d, .int .i64 p, .int .i64 s]) ?_ rfl ⟨y, d, p, s, ⟨hp0, hp1⟩, rfl, K.out⟩
      simp [results, Tryd.f27, go_sem]

end Go.Proofs.YtchdmmlkgglmcaaDoor.Tx
namespace Go.Proofs.YtchdmmlkgglmcaaDoor.Tx
open Go.RowKit

/-- What a draw of a seat leaves; of a seat and a box. -/
def SeatIn (w : World) (e : Ending) (w' : World) : Prop := ∃ (s : SeatV) (B : Option Addr) (m mc : Nat) (l : List WordV), m ≤ 100 ∧ e = .returned (s.val B m mc) ∧ OutE w' w.heap.size 69 B m mc l ∧ Below w.heap.size w w'
def HearsIn (w : World) (e : Ending) (w' : World) : Prop := ∃ (s : SeatV) (B : Option Addr) (m mc : Nat) (l : List WordV) (b : BoxV), m ≤ 100 ∧ e = .returned (.tuple #[s.val B m mc, b.val]) ∧ OutE w' w.heap.size 69 B m mc l ∧ Below w.heap.size w w'

set_option maxRecDepth 100000 in
set_option maxHeartbeats 4000000 in
theorem DrawNewSeat_any (w : World) (A : Option Addr) (n cap : Nat) (hn : n ≤ 4096) (hb : BytesAt w w.heap.size A n) :
    Calls Tryd.prog 6 #[.slice A n cap] w (AnsingOut w) := by
  have K := Lib.hid (Below.refl w.heap.size w)
  have BT := Lib.hid hb
  clear hb
  go_enter Tryd.func6, Tryd.ntmps6
  go_wp2_with fail
  refine (DrawAnswering_any _ A n cap hn BT.out).mono ?_
  rintro e w2 ⟨hh, d, p, s, hp, rfl, b⟩
  go_wp2
  refine bodyPost_ret (v := .tuple #[.int .i64 hh, .int .i64 d, .int .i64 p, .int .i64 s]) ?_ rfl ⟨hh, d, p, s, hp, rfl, b⟩
  simp [results, Tryd.f6, go_sem]

end Go.Proofs.YtchdmmlkgglmcaaDoor.Tx

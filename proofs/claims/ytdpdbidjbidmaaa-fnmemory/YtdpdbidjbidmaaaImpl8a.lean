/-
  What the program's small functions on the map of places do: placesOf, has, isFull, forget, told. Conditions: the list has at most 1048576 numbers, each an int64; told: no two of the list are alike.
-/
import Derived.WalkKit
import Derived.Maps.OwnSet
import Derived.Maps.RangeWalk
import Derived.Deep.OwnRows
import Derived.Lib.Hide
import Derived.Test.YtdpdbidjbidmaaaNums
import Derived.Test.YtdpdbidjbidmaaaBlk
import Derived.Test.YtdpdbidjbidmaaaMem0
namespace Go.Proofs.Ytdpdbidjbidmaaa.Tx
open Go.RowKit Go.Maps
open Go.ChangeMaps Go.MapKept Go.WideElems

theorem keyed : Keyed Try.prog 2 := int_keyed Try.underlying2
theorem zeroInt (w : World) : (zeroValue 3).run Try.prog w = .ok (.int .i64 0) w := by kernel_rfl
/-- Block b is the map of the places of zs. -/
def Places (w : World) (b : Nat) (zs : List Int) : Prop := w.ownsMap (H := Unit) Try.prog 2 (plainElem Try.prog 3) b zs.length (placesD zs zs.length)
theorem Places.lt {w : World} {b : Nat} {zs : List Int} (h : Places w b zs) : b < w.heap.size := World.ownsMap.lt h
theorem Places.kept {w w' : World} {b : Nat} {zs : List Int} {row : Option Nat} (h : Places w b zs) (hg : w.grownBy w' row) (hne : some b ≠ row) : Places w' b zs := World.ownsMap.kept h hg hne
theorem Places.on {w w' : World} {b : Nat} {zs : List Int} (h : Places w b zs) (hb : Below w.heap.size w w') : Places w' b zs := h.kept (row := none) ⟨hb.os, hb.tape, hb.output, hb.size, fun i hi _ => hb.block i hi⟩ (by simp)
theorem Places.alloc {w : World} {b : Nat} {zs : List Int} (h : Places w b zs) (o : Obj) : Places (w.alloc o) b zs := World.ownsMap.alloc h o

set_option maxHeartbeats 1000000 in
theorem placesOf_any (A : Option Addr) (n cap : Nat) (zs : List Int) (w : World) (h : Nums w w.heap.size A n zs) (hi : AllI64 zs) (hn : n ≤ 1048576) :
    Calls Try.prog 46 #[.slice A n cap] w fun e w' => e = .returned (.map (some w.heap.size)) ∧ Places w' w.heap.size zs ∧ Below w.heap.size w w' := by
  obtain ⟨hlen, hcells⟩ := h
  have HC := Lib.hid hcells
  have HL := Lib.hid hlen
  have HI := Lib.hid hi
  clear hcells hlen hi
  have hmm := @run_makeMap Try.prog
  go_enter Try.func46, Try.ntmps46
  go_wp2
  clear hmm
  go_loopw [9] (fun i wr => ∃ k : Nat, k ≤ n ∧ i = .int .i64 k ∧ wr.ownsMap (H := Unit) Try.prog 2 (plainElem Try.prog 3) w.heap.size k (placesD zs k) ∧ Below w.heap.size w wr) (fun i _ => n - (intOf i).toNat)
  case atStart => exact ⟨0, Nat.zero_le _, rfl, World.ownsMap_made _ _ _ _, (Below.refl _ _).alloc (Nat.le_refl _) _⟩
  case round =>
    obtain ⟨k, hk, rfl, hown, hB⟩ := hrel
    by_cases hlt : k < n
    · obtain ⟨b, off, rfl, hb, hc⟩ := HC.out (by omega)
      have hck := (hB.cell (p := ⟨b, off + k, none⟩) hb).trans (hc k hlt)
      obtain ⟨x, hx⟩ : ∃ x, x = zs[k]?.getD 0 := ⟨_, rfl⟩
      have hkey : keyOf Try.prog 2 (.int .i64 x) = some (.int .i64 x) := keyOf_int_mk Try.underlying2 (hx ▸ HI.out.at k)
      rw [← hx] at hck
      have HX := Lib.hid hx
      have HB := Lib.hid hB
      clear hc hx hB
      go_wp2_with (at_mapUpdate; refine wpList_mapUpdate_own _ rfl _ _ _ 56 rfl 2 3 keyed Try.underlying56 _ w.heap.size k _ rfl hown (by unfold maxLen; omega) _ _ _ rfl rfl hkey _ [] (plainElem_int Try.underlying3 (WalkArith.wf_i64 (by omega))) ?_; intro w1 hown1 hgrow1)
      go_roundw
      case rel => exact ⟨k + 1, by omega, by go_num, by rw [placesD, ← HX.out]; exact hown1, HB.out.grown hgrow1 HB.out.size (fun j hj => by cases hj; exact Nat.le_refl _)⟩
      case measure => simp [intOf]; omega
    · obtain rfl : k = n := by omega
      have HO := Lib.hid hown
      clear hown
      go_wp2
      go_ret
      exact ⟨rfl, by unfold Places; rw [HL.out]; exact HO.out, hB⟩

theorem has_any (b : Nat) (zs : List Int) (x : Int) (hx : I64 x) (w : World) (h : Places w b zs) :
    Calls Try.prog 41 #[.map (some b), .int .i64 x] w fun e w' => e = .returned (.bool (decide (x ∈ zs))) ∧ Below w.heap.size w w' := by
  have hkey : keyOf Try.prog 2 (.int .i64 x) = some (.int .i64 x) := keyOf_int_mk Try.underlying2 hx
  have hh : Maps.has (placesD (H := Unit) zs zs.length) (.int .i64 x) = decide (x ∈ zs) := by rw [has_places zs x _ (Nat.le_refl _), List.take_of_length_le (Nat.le_refl _)]
  have H := Lib.hid h
  clear h
  go_enter Try.func41, Try.ntmps41
  go_wp2_with (at_lookup; refine wpList_lookup_own_ok_int _ rfl _ _ 56 rfl 2 3 .i64 keyed Try.underlying56 Try.underlying3 (zeroInt _) b zs.length (placesD (H := Unit) zs zs.length) rfl H.out _ _ rfl hkey ?_; intro c _ _; rw [hh])
  go_ret
  exact ⟨rfl, Below.refl _ _⟩

theorem size_all {zs : List Int} (hd : zs.Nodup) : Maps.size (placesD (H := Unit) zs zs.length) = zs.length := size_places hd _ (Nat.le_refl _)

theorem isFull_any (b : Nat) (zs : List Int) (hd : zs.Nodup) (s : Int) (w : World) (h : Places w b zs) :
    Calls Try.prog 42 #[.agg #[.map (some b), .int .i64 s]] w fun e w' => e = .returned (.bool (decide (zs.length = 6))) ∧ Below w.heap.size w w' := by
  have hs := size_all hd
  have H := Lib.hid (h.alloc (.cells #[.map (some b), .int .i64 s] 58))
  clear h hd
  have he : ((zs.length : Int) == 6) = decide (zs.length = 6) := by
    by_cases e : zs.length = 6
    · rw [e]; rfl
    · rw [decide_eq_false e, beq_eq_false_iff_ne]; omega
  generalize hb : decide (zs.length = 6) = y at he ⊢
  clear hb
  go_enter Try.func42, Try.ntmps42
  go_wp2_with (at_len; refine wpList_len_own _ rfl _ 56 rfl 2 3 Try.underlying56 _ b zs.length (placesD (H := Unit) zs zs.length) rfl H.out ?_; rw [hs])
  go_ret
  exact ⟨rfl, (Below.refl _ w).alloc (Nat.le_refl _) _⟩

/-- clear(m). -/
theorem clear_own {P : Program} {k e t : TypeId} {R : Value → Option (DataW Unit × List MemPlace)} {w : World} {b n : Nat} {D : DataW Unit} (h : w.ownsMap P k R b n D) (ht : P.underlying t = some (.map k e)) (ty : TypeId) :
    ∃ w', (Builtin.clear_ #[t] ty #[.map (some b)]).run P w = .ok (.tuple #[]) w' ∧ w'.ownsMap P k R b 0 (.map []) ∧ w.mapTurned w' b := by
  obtain ⟨es, clock, hb, F, hs, rfl⟩ := h
  exact ⟨setBlock w b (.map #[] clock), by simp [Builtin.clear_, run_underlying ht, MapKept.run_getObj_map hb, MapKept.run_setObj_map _ hb, Result.andThen, setBlock], ⟨#[], clock, heap_setBlock_same hb _, ⟨by simp, stamped_empty _, by simp⟩, Nat.le_refl _, rfl⟩, ⟨es, clock, #[], clock, hb, rfl⟩⟩
theorem wpList_clear_own {P : Program} (w : World) {ops : Array Oper} {rest : List Oper} {o : Oper} {a : Act} {Q : Exit → Act → World → Prop} (hg : o.guard = none) (m : Operand) (t : TypeId) (hop : o.op = Op.call { callee := Callee.builtin Builtin.clear, args := #[m], argTypes := #[t] })
    (k e : TypeId) (ht : P.underlying t = some (.map k e)) (R : Value → Option (DataW Unit × List MemPlace)) (b n : Nat) (D : DataW Unit) (hm : a.eval m = .map (some b)) (hown : w.ownsMap P k R b n D)
    (hK : ∀ w', w'.ownsMap P k R b 0 (.map []) → w.mapTurned w' b → wpList P ops Q rest (a.put o.dst (.tuple #[])) w') : wpList P ops Q (o :: rest) a w := by
  refine wpList_plain hg fun K' hK' => ?_
  obtain ⟨w', hrun, r1, r2⟩ := clear_own hown ht o.type
  unfold Oper.wp
  simp [execOp, hop, resolve, invoke, builtin, hm, hrun, Result.andThen]
  exact hK' _ _ (hK w' r1 r2)

theorem forget_any (r b : Nat) (zs : List Int) (s : Int) (w : World) (h : Places w b zs) (hr : w.heap[r]? = some (.cells #[.map (some b), .int .i64 s] 58 (0, 0))) :
    Calls Try.prog 58 #[.pointer (some ⟨r, 0, none⟩)] w fun e w' => e = .returned (.tuple #[]) ∧ Places w' b [] ∧ w'.heap[r]? = some (.cells #[.map (some b), .int .i64 0] 58 (0, 0)) ∧ ∀ B, B ≤ r → B ≤ b → Below B w w' := by
  have hc0 := blk_cell hr 0
  have hlt := h.lt
  have hne : b ≠ r := fun e => by
    subst e
    obtain ⟨es, clock, hb, _⟩ := h
    rw [hb] at hr; cases hr
  have H := Lib.hid h
  have HR := Lib.hid hr
  clear h hr
  go_enter Try.func58, Try.ntmps58
  go_wp2_with (refine wpList_clear_own _ rfl _ 56 rfl 2 3 Try.underlying56 _ b zs.length (placesD (H := Unit) zs zs.length) rfl H.out ?_; intro w1 hown1 hturn1; have HO := Lib.hid hown1; have HT := Lib.hid hturn1; have hc := blk_cell ((hturn1.grown.block r (blk_in HR.out) (by intro e; exact hne (Option.some.inj e).symm)).trans HR.out) 1; have hf := blk_frozen ((hturn1.grown.block r (blk_in HR.out) (by intro e; exact hne (Option.some.inj e).symm)).trans HR.out) 1; clear hown1 hturn1)
  go_end0
  have hb1 := (HT.out.grown.block r (blk_in HR.out) (by intro e; exact hne (Option.some.inj e).symm)).trans HR.out
  refine ⟨rfl, World.ownsMap.setCell HO.out hne _, blk_put hb1 _, fun B h1 h2 => ?_⟩
  exact ((Below.refl B w).grown HT.out.grown (by omega) (fun j e => by cases e; exact h2)).setCell (p := ⟨r, 1, none⟩) h1 _

/-- What has been filled in: the numbers that are no longer to come. -/
def filled (zs : List Int) (left : Lit → Bool) (j : Nat) : Value := .int .i64 (if left (.int .i64 (zs[j]?.getD 0)) = true then 0 else zs[j]?.getD 0)
theorem filled_start {zs : List Int} {j : Nat} (hj : j < zs.length) : filled zs (Maps.has (placesD (H := Unit) zs zs.length)) j = .int .i64 0 := by
  unfold filled
  rw [has_places zs _ _ (Nat.le_refl _), List.take_of_length_le (Nat.le_refl _), decide_eq_true, if_pos rfl]
  rw [List.getElem?_eq_getElem hj]; exact List.getElem_mem _
theorem filled_step {zs : List Int} (hd : zs.Nodup) (left : Lit → Bool) {i j : Nat} (hi : i < zs.length) (hj : j < zs.length) :
    filled zs (fun z => left z && !z.sameKey (.int .i64 (zs[i]?.getD 0))) j = if j = i then .int .i64 (zs[i]?.getD 0) else filled zs left j := by
  unfold filled
  by_cases e : j = i
  · subst e
    simp [WideAt.sameKey_self (key_i64 _)]
  · have h1 := Maps.sameKey_ne (lit_ne (fun e' => e (nodup_inj hd hj hi e')))
    simp [e, h1]
theorem filled_end {zs : List Int} {left : Lit → Bool} (h : ∀ kl, left kl = false) (j : Nat) : filled zs left j = .int .i64 (zs[j]?.getD 0) := by
  unfold filled
  rw [h]; rfl

theorem only_cell (w : World) (g k : Nat) (u : Value) : w.grownBy (w.setCell ⟨g, k, none⟩ u) (some g) :=
  ⟨rfl, rfl, rfl, by simp [World.setCell], fun i _ hne => Below.heap_setCell w ⟨g, k, none⟩ u i (by rintro rfl; exact hne rfl)⟩

set_option maxRecDepth 100000 in
set_option maxHeartbeats 2000000 in
theorem told_any (b : Nat) (zs : List Int) (hd : zs.Nodup) (hn : zs.length ≤ 1048576) (s : Int) (w : World) (h : Places w b zs) :
    Calls Try.prog 43 #[.agg #[.map (some b), .int .i64 s]] w fun e w' => e = .returned (.agg #[.slice (some ⟨w.heap.size + 2, 0, none⟩) zs.length zs.length, .int .i64 s]) ∧
      w'.rowIs (w.heap.size + 2) 2 zs.length (fun i => .int .i64 (zs[i]?.getD 0)) ∧ Below w.heap.size w w' := by
  have hs := size_all hd
  have hlt := h.lt
  obtain ⟨V, hV⟩ : ∃ V, (w.alloc (.cells #[.map (some b), .int .i64 s] 58)).alloc (.cells #[.slice none 0 0, .int .i64 0] 26) = V := ⟨_, rfl⟩
  have H : Hid (Places V b zs) := by rw [← hV]; exact (h.alloc _).alloc _
  have K : Hid (Below w.heap.size w V) := by rw [← hV]; exact ((Below.refl _ w).alloc (Nat.le_refl _) _).alloc (by simp) _
  have B0 : Hid (V.heap[w.heap.size]? = some (.cells #[.map (some b), .int .i64 s] 58)) := by rw [← hV]; exact heap2a w _ _
  have R0 : Hid (V.heap[w.heap.size + 1]? = some (.cells #[.slice none 0 0, .int .i64 0] 26)) := by rw [← hV]; exact heap2b w _ _
  have sV : V.heap.size = w.heap.size + 2 := by rw [← hV]; simp
  have c0 := blk_cell B0.out 0
  have hmk := run_make_row' (P := Try.prog) 24 2 (.int .i64 0) 8 Try.underlying24 infoInt64 rfl .i64 .i64 zs.length (by omega) (by omega)
  clear h
  go_enter Try.func43, Try.ntmps43
  go_wp2_with (first
    | (at_len; refine wpList_len_own _ rfl _ 56 rfl 2 3 Try.underlying56 _ b zs.length (placesD (H := Unit) zs zs.length) rfl H.out ?_; rw [hs])
    | (at_range; refine wpList_range_own _ rfl _ 56 rfl 2 3 keyed Try.underlying56 _ b zs.length (placesD (H := Unit) zs zs.length) rfl (World.ownsMap.alloc H.out _) ?_; intro w0 hrg0 hg0 hs0))
  go_frame
  clear hmk hV
  have e1 : (V.alloc (.cells (madeCells #[.int .i64 0] zs.length) 2)).heap.size = w.heap.size + 3 := by rw [World.size_alloc, sV]
  rw [e1] at hrg0 hs0 ⊢
  have M0 := Lib.hid (World.rowIs_made V (.int .i64 0) zs.length 2)
  rw [sV] at M0
  have hB0 : Below (w.heap.size + 2) V w0 := ((Below.refl _ V).alloc (by omega) _).grown hg0 (by rw [e1]; omega) (fun j e => by cases e)
  have M1 : Hid (w0.rowIs (w.heap.size + 2) 2 zs.length (filled zs (Maps.has (placesD (H := Unit) zs zs.length)))) := by
    obtain ⟨c, hc, r⟩ := M0.out
    exact World.rowIs.congr ⟨c, (hg0.block _ (by rw [e1]; omega) (by simp)).trans hc, r⟩ (fun j hj => (filled_start hj).symm)
  go_loopw [13] (fun _ wr => ∃ (left : Lit → Bool) (cnt : Nat), wr.ranges (H := Unit) Try.prog 2 (plainElem Try.prog 3) b (w.heap.size + 3) zs.length (placesD zs zs.length) left cnt ∧ wr.rowIs (w.heap.size + 2) 2 zs.length (filled zs left) ∧ Below (w.heap.size + 2) V wr)
    (fun _ wr => wr.rangeLeft b (w.heap.size + 3))
  case atStart => exact ⟨_, _, hrg0, M1.out, hB0⟩
  case round =>
    obtain ⟨left, cnt, hrg, hrow, hB⟩ := hrel
    clear hrg0 hg0 hs0 M0 M1 hB0 e1
    go_wp2_with (at_next; refine wpList_next_ranges_ii _ rfl _ rfl 2 3 .i64 .i64 keyed Try.underlying2 Try.underlying3 b (w.heap.size + 3) zs.length _ _ _ rfl hrg ?_ ?_)
    · intro hc0 hl0
      have HR := Lib.hid (hrow.congr (fun j _ => filled_end hl0 j))
      have b1 := blk_cell ((hB.block _ (by omega)).trans B0.out) 1
      have R1 := Lib.hid ((hB.block _ (by omega)).trans R0.out)
      have r0 := blk_cell R1.out 0
      have r1 := blk_cell R1.out 1
      have f0 := blk_frozen R1.out 0
      have f1 := blk_frozen R1.out 1
      have HB := Lib.hid (K.out.trans (hB.mono (by omega)))
      clear hrow hB hrg hl0
      go_wp2
      exact row_ret (r := w.heap.size + 1) (cs := #[.slice (some ⟨w.heap.size + 2, 0, none⟩) zs.length zs.length, .int .i64 s]) rfl rfl (setAll_whole (vs := [.slice (some ⟨w.heap.size + 2, 0, none⟩) zs.length zs.length, .int .i64 s]) R1.out rfl) Try.underlying26 rfl (by kernel_rfl) rfl
        ⟨rfl, World.rowIs.setOther (a := ⟨w.heap.size + 1, 1, none⟩) (World.rowIs.setOther (a := ⟨w.heap.size + 1, 0, none⟩) HR.out (by simp) _) (by simp) _, (HB.out.setCell (p := ⟨w.heap.size + 1, 0, none⟩) (by simp) _).setCell (p := ⟨w.heap.size + 1, 1, none⟩) (by simp) _⟩
    · intro x c w1 cnt1 hwx hwc hlx hat hrg1 hcl hg1 hs1 hen
      obtain ⟨i, hi, rfl, hx⟩ := place_of hd hat
      have HX := Lib.hid hx
      clear hx
      have hrow1 : w1.rowIs (w.heap.size + 2) 2 zs.length (filled zs left) := by
        obtain ⟨c, hc, r⟩ := hrow
        exact ⟨c, (hg1.block _ (blk_in hc) (by intro e; have := Option.some.inj e; omega)).trans hc, r⟩
      have hB1 : Below (w.heap.size + 2) V w1 := hB.grown hg1 (by have := hB.size; omega) (fun j e => by cases e; omega)
      have g1 := hrow1.cell hi
      have g2 := hrow1.frozen i
      have HR := Lib.hid hrow1
      have HG := Lib.hid hrg1
      have HB := Lib.hid hB1
      have HL := Lib.hid (hrg.left_eq)
      clear hrow hrow1 hrg hrg1 hB hB1 hat hg1 hs1
      go_wp2
      go_roundw
      case rel =>
        refine ⟨fun z => left z && !z.sameKey (.int .i64 x), cnt1, ?_, (World.rowIs.set HR.out i _).congr (fun j hj => by rw [HX.out]; exact (filled_step hd left hi hj).symm), HB.out.setCell (p := ⟨w.heap.size + 2, i, none⟩) (Nat.le_refl _) _⟩
        exact HG.out.kept (row := some (w.heap.size + 2)) (only_cell _ _ _ _) (by intro e; have := Option.some.inj e; omega) (by intro e; have := Option.some.inj e; omega)
      case measure =>
        have hk := HG.out.kept (row := some (w.heap.size + 2)) (only_cell w1 (w.heap.size + 2) i (.int .i64 x)) (by intro e; have := Option.some.inj e; omega) (by intro e; have := Option.some.inj e; omega)
        rw [hk.left_eq, HL.out]; exact hcl

end Go.Proofs.Ytdpdbidjbidmaaa.Tx

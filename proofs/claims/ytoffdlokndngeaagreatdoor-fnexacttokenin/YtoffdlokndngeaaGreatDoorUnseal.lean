/-
  What Unsealed of the model answers. No conditions.
-/
import Derived.Test.YtoffdlokndngeaaGreatDoorRead
import Derived.Test.YtoffdlokndngeaaGreatDoorSplit
import Derived.Test.YtoffdlokndngeaaGreatDoorNums
import Derived.Test.YtoffdlokndngeaaGreatDoorTokText
namespace Go.Proofs.YtoffdlokndngeaaGreatDoor.Tx
open Go.RowKit

/-- The numbers that texts tell. -/
def readsT : List ByteArray → Option (List Int)
  | [] => some []
  | s :: r => (readT s).bind fun n => (readsT r).map (n :: ·)
theorem reads_append : ∀ a b : List ByteArray, readsT (a ++ b) = (readsT a).bind fun x => (readsT b).map (x ++ ·)
  | [], b => by cases h : readsT b <;> simp [readsT, h]
  | s :: r, b => by
    rw [List.cons_append, readsT, readsT, reads_append r b]
    cases readT s <;> cases readsT r <;> cases readsT b <;> rfl
theorem reads_on {ws : List ByteArray} {k : Nat} {ns : List Int} {x : Int} (hk : k < ws.length) (h : readsT (ws.take k) = some ns) (hx : readT (ws[k]?.getD ByteArray.empty) = some x) : readsT (ws.take (k + 1)) = some (ns ++ [x]) := by
  rw [List.getElem?_eq_getElem hk, Option.getD_some] at hx
  rw [List.take_succ_eq_append_getElem hk, reads_append, h]
  simp [readsT, hx]
theorem reads_bad {ws : List ByteArray} {k : Nat} {ns : List Int} (hk : k < ws.length) (h : readsT (ws.take k) = some ns) (hx : readT (ws[k]?.getD ByteArray.empty) = none) : readsT ws = none := by
  rw [List.getElem?_eq_getElem hk, Option.getD_some] at hx
  rw [← List.take_append_drop k ws, reads_append, h, List.drop_eq_getElem_cons hk]
  simp [readsT, hx]
/-- The token that four numbers and a seal make, and what is unsealed. -/
def tokOf (ns : List Int) (b : BoxV) : TokV := ⟨ns[0]?.getD 0, ns[1]?.getD 0, ns[2]?.getD 0, ns[3]?.getD 0, b⟩
def unsealO (inn : Int) (b : BoxV) : Option TokV :=
  if openB b (rightK ⟨6, inn, 0, 0⟩) 0 = true ∧ (splitT 45 b.t).length = 4 then
    (readsT (splitT 45 b.t)).bind fun ns => if tokOkB (tokOf ns b) = true then some (tokOf ns b) else none
  else none
theorem open_size {b : BoxV} {k : KeyV} {no : Int} : (openT b k no).size ≤ 40 := by
  unfold openT
  split
  · rename_i h
    simp only [openB, Bool.and_eq_true, boxOkB, decide_eq_true_iff] at h
    exact h.1.2.2
  · exact Nat.zero_le _

theorem cut_size (c : UInt8) : ∀ (L l : List UInt8), l ∈ cutB c L → l.length ≤ L.length
  | [], l, h => by simp [cutB] at h; subst h; exact Nat.le_refl _
  | x :: r, l, h => by
    obtain ⟨a, t, e⟩ := cutB_some c r
    unfold cutB at h
    split at h
    · rcases List.mem_cons.1 h with rfl | h
      · exact Nat.zero_le _
      · have := cut_size c r l h; rw [List.length_cons]; omega
    · rw [e] at h
      dsimp only at h
      rcases List.mem_cons.1 h with rfl | h
      · have := cut_size c r a (by rw [e]; exact List.mem_cons_self); rw [List.length_cons, List.length_cons]; omega
      · have := cut_size c r l (by rw [e]; exact List.mem_cons_of_mem _ h); rw [List.length_cons]; omega
theorem split_size {c : UInt8} {s t : ByteArray} (h : t ∈ splitT c s) : t.size ≤ s.size := by
  obtain ⟨l, hl, rfl⟩ := List.mem_map.1 h
  have h1 := cut_size c _ l hl
  have h2 : s.data.toList.length = s.size := by simp
  rw [h2] at h1
  exact h1

set_option maxRecDepth 100000 in
set_option maxHeartbeats 8000000 in
theorem Unsealed_spec (inn : Int) (b : BoxV) (w : World) :
    Calls Tryz.prog 42 #[.int .i64 inn, b.val] w fun e w' => e = .returned (.tuple #[((unsealO inn b).getD .zero).val, .bool (unsealO inn b).isSome]) ∧ Below w.heap.size w w' := by
  obtain ⟨i0, hi, hz0, hz1, hz2⟩ := info_parts infoInt64
  obtain ⟨⟨xu, xs, xh, xa⟩, xn, xt, xp⟩ := b
  have HV : Hid (BoxV.val ⟨⟨xu, xs, xh, xa⟩, xn, xt, xp⟩ = .agg #[.int .i64 xu, .int .i64 xs, .int .i64 xh, .int .i64 xa, .int .i64 xn, .string xt, .bool xp]) := rfl
  rw [HV.out]
  obtain ⟨W, hW⟩ : ∃ W, (w.alloc (.cells #[.int .i64 xu, .int .i64 xs, .int .i64 xh, .int .i64 xa, .int .i64 xn, .string xt, .bool xp] 30)).alloc (.cells #[.int .i64 0, .int .i64 0, .int .i64 0, .int .i64 0, .int .i64 0, .int .i64 0, .int .i64 0, .int .i64 0, .int .i64 0, .string ⟨#[]⟩, .bool false] 39) = W := ⟨_, rfl⟩
  have K : Hid (Below w.heap.size w W) := by rw [← hW]; exact ((Below.refl _ w).alloc (Nat.le_refl _) _).alloc (by simp) _
  have X : Hid (W.heap[w.heap.size]? = some (.cells #[.int .i64 xu, .int .i64 xs, .int .i64 xh, .int .i64 xa, .int .i64 xn, .string xt, .bool xp] 30)) := by rw [← hW]; exact heap2a w _ _
  have R : Hid (W.heap[w.heap.size + 1]? = some (.cells #[.int .i64 0, .int .i64 0, .int .i64 0, .int .i64 0, .int .i64 0, .int .i64 0, .int .i64 0, .int .i64 0, .int .i64 0, .string ⟨#[]⟩, .bool false] 39)) := by rw [← hW]; exact heap2b w _ _
  have sW : w.heap.size + 1 < W.heap.size := blk_in R.out
  obtain ⟨⟨ku, ks, kh, ka⟩, hk⟩ : ∃ x, rightK ⟨6, inn, 0, 0⟩ = x := ⟨_, rfl⟩
  obtain ⟨is, his⟩ : ∃ x, openB ⟨⟨xu, xs, xh, xa⟩, xn, xt, xp⟩ ⟨ku, ks, kh, ka⟩ 0 = x := ⟨_, rfl⟩
  obtain ⟨z, hz⟩ : ∃ x, openT ⟨⟨xu, xs, xh, xa⟩, xn, xt, xp⟩ ⟨ku, ks, kh, ka⟩ 0 = x := ⟨_, rfl⟩
  have hzs : z.size ≤ 40 := by rw [← hz]; exact open_size
  have cK : Hid (∀ w' : World, Calls Tryz.prog 79 #[.int .i64 inn] w' fun e w'' => e = .returned (.agg #[.int .i64 ku, .int .i64 ks, .int .i64 kh, .int .i64 ka]) ∧ Below w'.heap.size w' w'') := fun w' => by have := TokenKey_spec inn w'; rw [hk] at this; exact this
  have cO : Hid (∀ w' : World, Calls Tryz.prog 46 #[.agg #[.int .i64 xu, .int .i64 xs, .int .i64 xh, .int .i64 xa, .int .i64 xn, .string xt, .bool xp], .agg #[.int .i64 ku, .int .i64 ks, .int .i64 kh, .int .i64 ka], .int .i64 0] w' fun e w'' => e = .returned (.tuple #[.string z, .bool is]) ∧ Below w'.heap.size w' w'') := fun w' => by have := Opened_spec ⟨⟨xu, xs, xh, xa⟩, xn, xt, xp⟩ ⟨ku, ks, kh, ka⟩ 0 w'; rw [hz, his] at this; exact this
  have HU : Hid (unsealO inn ⟨⟨xu, xs, xh, xa⟩, xn, xt, xp⟩ = if is = true ∧ (splitT 45 xt).length = 4 then (readsT (splitT 45 xt)).bind fun ns => if tokOkB (tokOf ns ⟨⟨xu, xs, xh, xa⟩, xn, xt, xp⟩) = true then some (tokOf ns ⟨⟨xu, xs, xh, xa⟩, xn, xt, xp⟩) else none else none) := by show _ = _; rw [unsealO, hk, his]
  have HZ : Hid (is = true → z = xt) := fun e => by rw [← hz]; exact (open_true (his.trans e)).2.2.2
  clear hk his hz
  go_enter Tryz.func42, Tryz.ntmps42
  go_wp2
  clear hW
  refine wp_region_own (W := W) [] (fun _ => True) stays_true trivial [0, 0, 1, 1, 0, 0, 0, 0, 0] (by kernel_rfl) (by kernel_rfl) (by kernel_rfl) ?_
  have fk : ∀ q : In (plainEnv W []), _ := fun q => (blk7 (q.block X.out (by simp))).1
  refine wpO_quiet 2 rfl (by kernel_rfl) ?_
  simp only [List.take, List.drop]
  repeat (go_big_quiet_step (fail))
  refine wpQuiet_nil ?_
  refine wpO_call (f := 79) (args := #[.int .i64 inn]) (.agg #[.int .i64 ku, .int .i64 ks, .int .i64 kh, .int .i64 ka]) rfl (fun w' => by simp [go_sem]) (fun w' _ _ => cK.out w') ?_
  simp only [Act.put, List.setIfInBounds_toArray, List.set_cons_succ, List.set_cons_zero]
  refine wpO_call (f := 46) (args := #[.agg #[.int .i64 xu, .int .i64 xs, .int .i64 xh, .int .i64 xa, .int .i64 xn, .string xt, .bool xp], .agg #[.int .i64 ku, .int .i64 ks, .int .i64 kh, .int .i64 ka], .int .i64 0]) (.tuple #[.string z, .bool is]) rfl (fun w' => by simp [go_sem]) (fun w' _ _ => cO.out w') ?_
  simp only [Act.put, List.setIfInBounds_toArray, List.set_cons_succ, List.set_cons_zero]
  refine wpO_quiet 5 rfl (by kernel_rfl) ?_
  simp only [List.take, List.drop]
  repeat (go_big_quiet_step (fail))
  refine wpQuiet_nil ?_
  refine wpO_nil ?_
  rintro w1 b1' _
  have b1 := kept_below b1'
  have X1 := Lib.hid (blk_on b1 X.out)
  have R1 := Lib.hid (blk_on b1 R.out)
  have K1 := Lib.hid (K.out.trans (b1.mono K.out.size))
  clear fk b1 b1' X R K
  obtain ⟨ws, hws⟩ : ∃ ws, splitT 45 z = ws := ⟨_, rfl⟩
  have cS : Hid (∀ w' : World, Calls Tryz.prog 80 #[.string z, .int .u8 45] w' fun e w'' => ∃ gb cb, e = .returned (.slice (some ⟨gb, 0, none⟩) ws.length cb) ∧ MadeG w'' w'.heap.size 9 1 ws.length (ws.map Value.string) gb cb ∧ Below w'.heap.size w' w'') := fun w' => by have := l1Split_any z 45 (by omega) w'; rw [hws] at this; exact this
  have HW := Lib.hid hws
  clear hws
  go_wp2_with fail
  refine (cS.out _).mono ?_
  rintro e w2 ⟨gb, cb, rfl, hM, b2⟩
  have X2 := Lib.hid (blk_on b2 X1.out)
  have R2 := Lib.hid (blk_on b2 R1.out)
  have K2 := Lib.hid (K1.out.trans (b2.mono K1.out.size))
  have M2 := Lib.hid hM
  have s2 : w.heap.size + 1 < w2.heap.size := blk_in R2.out
  clear b2 hM X1 R1 K1
  cases is with
  | false =>
    have HE : Hid (unsealO inn ⟨⟨xu, xs, xh, xa⟩, xn, xt, xp⟩ = none) := by show _ = _; rw [HU.out, if_neg]; rintro ⟨c, _⟩; cases c
    obtain ⟨⟨g0, g1, g2, g3, g4, g5, g6, g7, g8, g9, g10⟩, k0, k1, k2, k3, k4, k5, k6, k7, k8, k9, k10⟩ := blk11 R2.out
    go_wp2
    refine row_ret2 (r := w.heap.size + 1) (cs := List.toArray TokV.zero.cells) rfl rfl rfl (setAll_whole (w := w2) (vs := TokV.zero.cells) R2.out rfl) Tryz.underlying39 rfl (by kernel_rfl) rfl ⟨?_, setAll_below (w := w2) (by omega) TokV.zero.cells 0 K2.out⟩
    rw [HE.out]; rfl
  | true =>
    obtain rfl : z = xt := HZ.out rfl
    clear HZ
    by_cases h4 : ¬ ws.length = 4
    · have HE : Hid (unsealO inn ⟨⟨xu, xs, xh, xa⟩, xn, z, xp⟩ = none) := by show _ = _; rw [HU.out, if_neg]; rintro ⟨_, c⟩; rw [HW.out] at c; exact h4 c
      have h4' : ((ws.length : Int) != 4) = true := by simp; omega
      obtain ⟨⟨g0, g1, g2, g3, g4, g5, g6, g7, g8, g9, g10⟩, k0, k1, k2, k3, k4, k5, k6, k7, k8, k9, k10⟩ := blk11 R2.out
      go_wp2
      refine row_ret2 (r := w.heap.size + 1) (cs := List.toArray TokV.zero.cells) rfl rfl rfl (setAll_whole (w := w2) (vs := TokV.zero.cells) R2.out rfl) Tryz.underlying39 rfl (by kernel_rfl) rfl ⟨?_, setAll_below (w := w2) (by omega) TokV.zero.cells 0 K2.out⟩
      rw [HE.out]; rfl
    replace h4 : ws.length = 4 := Decidable.of_not_not h4
    have HU2 : Hid (unsealO inn ⟨⟨xu, xs, xh, xa⟩, xn, z, xp⟩ = (readsT ws).bind fun ns => if tokOkB (tokOf ns ⟨⟨xu, xs, xh, xa⟩, xn, z, xp⟩) = true then some (tokOf ns ⟨⟨xu, xs, xh, xa⟩, xn, z, xp⟩) else none) := by show _ = _; rw [HU.out, HW.out, if_pos ⟨rfl, h4⟩]
    have h4' : ((ws.length : Int) != 4) = false := by simp; omega
    clear HU
    go_wp2
    go_loopw [9, 10] (fun v i wr => ∃ (k : Nat) (ns : List Int) (g2 c2 : Nat), k ≤ 4 ∧ i = .int .i64 k ∧ v = .slice (some ⟨g2, 0, none⟩) ns.length c2 ∧ ns.length = k ∧ readsT (ws.take k) = some ns ∧
      MadeG wr w2.heap.size 2 1 ns.length (ns.map (Value.int .i64)) g2 c2 ∧ Below w2.heap.size w2 wr) (fun _ i _ => 4 - (intOf i).toNat)
    case atStart => exact ⟨0, [], w2.heap.size, 0, by omega, rfl, rfl, rfl, rfl, madeG_nil (heap1 w2 _) (Nat.le_refl _), (Below.refl _ w2).alloc (Nat.le_refl _) _⟩
    case round =>
      obtain ⟨k, ns, g2, c2, hk, rfl, rfl, hlen, hrd, hM, hB⟩ := hrel
      have HRD := Lib.hid hrd
      have HM := Lib.hid hM
      have HB := Lib.hid hB
      have R3 := Lib.hid (blk_on hB R2.out)
      have X3 := Lib.hid (blk_on hB X2.out)
      have K3 := Lib.hid (K2.out.trans (hB.mono K2.out.size))
      have hg2 := hM.base
      have hsB := hB.size
      have hlen2 : Hid (ns.length = k) := hlen
      clear hrd hM hB
      by_cases hlt : k < 4
      · obtain ⟨t, ht⟩ : ∃ t, ws[k]?.getD ByteArray.empty = t := ⟨_, rfl⟩
        have hkw : k < ws.length := by omega
        have ft : wr.cell? ⟨gb, k, none⟩ = some (.string t) := by
          rw [HB.out.cell (p := ⟨gb, k, none⟩) M2.out.base.2]
          exact M2.out.cell (by rw [List.getElem?_map, List.getElem?_eq_getElem hkw, ← ht, List.getElem?_eq_getElem hkw]; rfl)
        have hts : t.size ≤ 9223372036854775807 := by
          have := split_size (c := 45) (s := z) (t := t) (by rw [HW.out, ← ht, List.getElem?_eq_getElem hkw]; exact List.getElem_mem hkw)
          omega
        have hk0 : (0 : Int) ≤ (k : Int) := by omega
        have hk4 : (k : Int) < 4 := by omega
        have hkw' : (k : Int) < (ws.length : Int) := by omega
        obtain ⟨o, ho⟩ : ∃ o, readT t = o := ⟨_, rfl⟩
        have HO : Hid (readT (ws[k]?.getD ByteArray.empty) = o) := by show _ = _; rw [ht]; exact ho
        clear ht
        go_wp2_with fail
        clear ft
        refine (l1Read_any t hts _).mono ?_
        rintro e w' ⟨rfl, rfl⟩
        rw [ho]
        cases o with
        | none =>
          have HE : Hid (unsealO inn ⟨⟨xu, xs, xh, xa⟩, xn, z, xp⟩ = none) := by show _ = _; rw [HU2.out, reads_bad hkw HRD.out HO.out]; rfl
          simp only [Option.getD_none, Option.isSome_none]
          obtain ⟨⟨g0, g1, g2, g3, g4, g5, g6, g7, g8, g9, g10⟩, k0, k1, k2, k3, k4, k5, k6, k7, k8, k9, k10⟩ := blk11 R3.out
          go_wp2
          refine row_ret2 (r := w.heap.size + 1) (cs := List.toArray TokV.zero.cells) rfl rfl rfl (setAll_whole (w := wr) (vs := TokV.zero.cells) R3.out rfl) Tryz.underlying39 rfl (by kernel_rfl) rfl ⟨?_, setAll_below (w := wr) (by omega) TokV.zero.cells 0 K3.out⟩
          rw [HE.out]; rfl
        | some x =>
          simp only [Option.getD_some, Option.isSome_some]
          have HN := Lib.hid (reads_on hkw HRD.out HO.out)
          go_wp2_with (at_builtin; refine wpList_append_own _ rfl _ _ 24 rfl w2.heap.size 2 i0 (.int .i64 0) 1 8 Tryz.underlying24 hi hz0 hz1 hz2 rfl (by decide) _ _ _ rfl (HM.out.own.alloc _) ⟨wr.heap.size, 0, none⟩ 1 1 [.int .i64 x] rfl rfl (cells_new wr [.int .i64 x] _) (by simp [Value.oneCell']) (by unfold maxLen; omega) (by omega) (by simp; omega) ?_; intro v' w3 hown' hgrow _; obtain ⟨gb', cb', rfl, hM'⟩ := madeG_of hown' (by omega); have HM' := Lib.hid hM'; have HGR := Lib.hid hgrow; clear hown' hgrow hM')
          go_roundw
          case rel => exact ⟨k + 1, ns ++ [x], gb', cb', by omega, by go_num, by simp [hlen2.out], by simp; omega, HN.out, by simpa using HM'.out, (HB.out.alloc HB.out.size _).grown HGR.out (by simp; omega) (by intro k' e; have e1 := Option.some.inj e; dsimp only at e1; omega)⟩
          case measure => simp [intOf]; omega
      · obtain rfl : k = 4 := by omega
        obtain ⟨n0, n1, n2, n3, rfl⟩ : ∃ n0 n1 n2 n3, ns = [n0, n1, n2, n3] := by
          match ns, hlen with
          | [n0, n1, n2, n3], _ => exact ⟨n0, n1, n2, n3, rfl⟩
        have HE : Hid (unsealO inn ⟨⟨xu, xs, xh, xa⟩, xn, z, xp⟩ = if tokOkB ⟨n0, n1, n2, n3, ⟨⟨xu, xs, xh, xa⟩, xn, z, xp⟩⟩ = true then some ⟨n0, n1, n2, n3, ⟨⟨xu, xs, xh, xa⟩, xn, z, xp⟩⟩ else none) := by
          show _ = _
          have e : readsT ws = some [n0, n1, n2, n3] := by have := HRD.out; rwa [List.take_of_length_le (by omega)] at this
          rw [HU2.out, e]; rfl
        have hk4 : ¬ (4 : Int) < 4 := by omega
        clear hlen2
        simp only [List.length_cons, List.length_nil, Nat.zero_add, Nat.reduceAdd] at HM ⊢
        go_wp2
        refine wp_region_own (W := wr) [] (fun _ => True) stays_true trivial [0, 0, 0, 0, 0, 0, 0, 0, 0, 0, 0, 0, 0, 0, 2, 3] (by kernel_rfl) (by kernel_rfl) (by kernel_rfl) ?_
        have fx : ∀ q : In (plainEnv wr []), _ := fun q => (blk7 (q.block X3.out (by simp))).1
        have f0 : ∀ q : In (plainEnv wr []), q.w.cell? ⟨g2, 0, none⟩ = some (.int .i64 n0) := fun q => (q.bel.cell (p := ⟨g2, 0, none⟩) hg2.2).trans (HM.out.cell rfl)
        have f1 : ∀ q : In (plainEnv wr []), q.w.cell? ⟨g2, 1, none⟩ = some (.int .i64 n1) := fun q => (q.bel.cell (p := ⟨g2, 1, none⟩) hg2.2).trans (HM.out.cell rfl)
        have f2 : ∀ q : In (plainEnv wr []), q.w.cell? ⟨g2, 2, none⟩ = some (.int .i64 n2) := fun q => (q.bel.cell (p := ⟨g2, 2, none⟩) hg2.2).trans (HM.out.cell rfl)
        have f3 : ∀ q : In (plainEnv wr []), q.w.cell? ⟨g2, 3, none⟩ = some (.int .i64 n3) := fun q => (q.bel.cell (p := ⟨g2, 3, none⟩) hg2.2).trans (HM.out.cell rfl)
        refine wpO_quiet 14 rfl (by kernel_rfl) ?_
        simp only [List.take, List.drop]
        repeat (go_big_quiet_step (fail))
        refine wpQuiet_nil ?_
        refine wpO_alloc (.cells #[.int .i64 0, .int .i64 0, .int .i64 0, .int .i64 0, .int .i64 0, .int .i64 0, .int .i64 0, .int .i64 0, .int .i64 0, .string ⟨#[]⟩, .bool false] 39) rfl (fun w' => by simp [go_sem]) fun g mg _ => ?_
        have hg : wr.heap.size ≤ g := mg
        simp only [Act.put, List.setIfInBounds_toArray, List.set_cons_succ, List.set_cons_zero]
        refine wpO_store (g := g) (t := 39) (old := #[.int .i64 0, .int .i64 0, .int .i64 0, .int .i64 0, .int .i64 0, .int .i64 0, .int .i64 0, .int .i64 0, .int .i64 0, .string ⟨#[]⟩, .bool false]) (fun _ => True) #[.int .i64 n0, .int .i64 n1, .int .i64 n2, .int .i64 n3, .int .i64 xu, .int .i64 xs, .int .i64 xh, .int .i64 xa, .int .i64 xn, .string z, .bool xp] rfl rfl rfl rfl (Env.own _ mg) (by kernel_rfl) rfl rfl (fun w' h => ⟨trivial, h.2⟩) stays_true (away_true _) ?_
        refine wpO_nil ?_
        rintro w5 b5' ⟨_, hT⟩
        have b5 := kept_below b5'
        have R5 := Lib.hid (blk_on b5 R3.out)
        have K5 := Lib.hid (K3.out.trans (b5.mono K3.out.size))
        have T5 := Lib.hid hT
        clear fx f0 f1 f2 f3 b5 b5' hT
        obtain ⟨⟨d0, d1, d2, d3, d4, d5, d6, d7, d8, d9, d10⟩, _⟩ := blk11 T5.out
        go_wp2_with fail
        clear d0 d1 d2 d3 d4 d5 d6 d7 d8 d9 d10
        refine (TokenOk_spec ⟨n0, n1, n2, n3, ⟨⟨xu, xs, xh, xa⟩, xn, z, xp⟩⟩ _).mono ?_
        rintro e w6 ⟨rfl, b6⟩
        have R6 := Lib.hid (blk_on b6 R5.out)
        have T6 := Lib.hid (blk_on b6 T5.out)
        have K6 := Lib.hid (K5.out.trans (b6.mono K5.out.size))
        clear b6
        cases hok : tokOkB ⟨n0, n1, n2, n3, ⟨⟨xu, xs, xh, xa⟩, xn, z, xp⟩⟩ with
        | false =>
          rw [hok] at HE
          obtain ⟨⟨g0, g1, g2, g3, g4, g5, g6, g7, g8, g9, g10⟩, k0, k1, k2, k3, k4, k5, k6, k7, k8, k9, k10⟩ := blk11 R6.out
          go_wp2
          refine row_ret2 (r := w.heap.size + 1) (cs := List.toArray TokV.zero.cells) rfl rfl rfl (setAll_whole (w := w6) (vs := TokV.zero.cells) R6.out rfl) Tryz.underlying39 rfl (by kernel_rfl) rfl ⟨?_, setAll_below (w := w6) (by omega) TokV.zero.cells 0 K6.out⟩
          rw [HE.out]; rfl
        | true =>
          rw [hok] at HE
          obtain ⟨⟨d0, d1, d2, d3, d4, d5, d6, d7, d8, d9, d10⟩, _⟩ := blk11 T6.out
          obtain ⟨⟨g0, g1, g2, g3, g4, g5, g6, g7, g8, g9, g10⟩, k0, k1, k2, k3, k4, k5, k6, k7, k8, k9, k10⟩ := blk11 R6.out
          go_wp2
          refine row_ret2 (r := w.heap.size + 1) (cs := List.toArray (TokV.cells ⟨n0, n1, n2, n3, ⟨⟨xu, xs, xh, xa⟩, xn, z, xp⟩⟩)) rfl rfl rfl (setAll_whole (w := w6) (vs := (TokV.cells ⟨n0, n1, n2, n3, ⟨⟨xu, xs, xh, xa⟩, xn, z, xp⟩⟩)) R6.out rfl) Tryz.underlying39 rfl (by kernel_rfl) rfl ⟨?_, setAll_below (w := w6) (by omega) (TokV.cells ⟨n0, n1, n2, n3, ⟨⟨xu, xs, xh, xa⟩, xn, z, xp⟩⟩) 0 K6.out⟩
          rw [HE.out]; rfl

end Go.Proofs.YtoffdlokndngeaaGreatDoor.Tx

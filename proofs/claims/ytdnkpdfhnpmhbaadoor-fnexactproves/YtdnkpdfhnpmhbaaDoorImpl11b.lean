/-
  What Proves of the program answers. Conditions: a pick is an int64; the library's table of powers of ten holds what its text lays in it.
-/
import Derived.Test.YtdnkpdfhnpmhbaaDoorImpl11a
import Derived.Test.YtdnkpdfhnpmhbaaDoorFmt
namespace Go.Proofs.YtdnkpdfhnpmhbaaDoor.Tx
open Go.RowKit

theorem assert00 (v : Value) (w : World) : (Instr.typeAssert (.iface 65 v) 60 65 true).run Tryd.prog w = .ok (.tuple #[v, .bool true]) w := by kernel_rfl
theorem assert10 (v : Value) (w : World) : (Instr.typeAssert (.iface 67 v) 60 65 true).run Tryd.prog w = .ok (.tuple #[.agg #[.int .i64 0, .int .i64 0, .int .i64 0, .int .i64 0, .int .i64 0, .int .i64 0, .int .i64 0, .int .i64 0, .string ⟨#[]⟩, .bool false], .bool false]) w := by kernel_rfl
theorem assert11 (v : Value) (w : World) : (Instr.typeAssert (.iface 67 v) 60 67 true).run Tryd.prog w = .ok (.tuple #[v, .bool true]) w := by kernel_rfl
theorem assert20 (v : Value) (w : World) : (Instr.typeAssert (.iface 68 v) 60 65 true).run Tryd.prog w = .ok (.tuple #[.agg #[.int .i64 0, .int .i64 0, .int .i64 0, .int .i64 0, .int .i64 0, .int .i64 0, .int .i64 0, .int .i64 0, .string ⟨#[]⟩, .bool false], .bool false]) w := by kernel_rfl
theorem assert21 (v : Value) (w : World) : (Instr.typeAssert (.iface 68 v) 60 67 true).run Tryd.prog w = .ok (.tuple #[.agg #[.int .i64 0, .int .i64 0, .int .i64 0, .int .i64 0, .int .i64 0, .int .i64 0, .int .i64 0, .int .i64 0, .string ⟨#[]⟩, .bool false], .bool false]) w := by kernel_rfl
theorem assert22 (v : Value) (w : World) : (Instr.typeAssert (.iface 68 v) 60 68 true).run Tryd.prog w = .ok (.tuple #[v, .bool true]) w := by kernel_rfl

set_option maxHeartbeats 4000000 in
theorem writtenPick_any (a : AnsV) (hi : I64 a.p) (w : World) (ht : Tab w) : Calls Tryd.prog 25 #[a.val] w fun e w' => e = .returned (.string (intT a.p)) ∧ Below w.heap.size w w' := by
  obtain ⟨ah, ad, ap, ⟨⟨xu, xs, xh, xa⟩, xn, xt, xp⟩⟩ := a
  have HV : Hid (AnsV.val ⟨ah, ad, ap, ⟨⟨xu, xs, xh, xa⟩, xn, xt, xp⟩⟩ = .agg #[.int .i64 ah, .int .i64 ad, .int .i64 ap, .int .i64 xu, .int .i64 xs, .int .i64 xh, .int .i64 xa, .int .i64 xn, .string xt, .bool xp]) := rfl
  rw [HV.out]
  dsimp only at hi ⊢
  have HTB := Lib.hid ht
  have cF := Lib.hid fun (w' : World) hT => fmt_any ap hi w' hT
  clear ht HV
  generalize intT ap = tx at cF ⊢
  obtain ⟨W0, hW0⟩ : ∃ W, w.alloc (.cells #[.int .i64 ah, .int .i64 ad, .int .i64 ap, .int .i64 xu, .int .i64 xs, .int .i64 xh, .int .i64 xa, .int .i64 xn, .string xt, .bool xp] 31) = W := ⟨_, rfl⟩
  have K0 : Hid (Below w.heap.size w W0) := by rw [← hW0]; exact (Below.refl _ w).alloc (Nat.le_refl _) _
  have A0 : Hid (W0.heap[w.heap.size]? = some (.cells #[.int .i64 ah, .int .i64 ad, .int .i64 ap, .int .i64 xu, .int .i64 xs, .int .i64 xh, .int .i64 xa, .int .i64 xn, .string xt, .bool xp] 31)) := by rw [← hW0]; exact heap1 w _
  obtain ⟨⟨a0, a1, a2, a3, a4, a5, a6, a7, a8, a9⟩, _⟩ := blk10 A0.out
  go_enter Tryd.func25, Tryd.ntmps25
  go_wp2_with fail
  clear a0 a1 a2 a3 a4 a5 a6 a7 a8 a9
  clear hW0
  refine (cF.out _ (HTB.out.on K0.out)).mono ?_
  rintro e w1 ⟨rfl, hb⟩
  have A1 := Lib.hid (blk_on hb A0.out)
  have K1 := Lib.hid (K0.out.trans (hb.mono K0.out.size))
  clear hb A0 K0
  go_wp2
  go_ret
  exact ⟨rfl, K1.out⟩
set_option maxHeartbeats 8000000 in
theorem opensBy_any (a : AnsV) (s : Int) (hi : I64 a.p) (w : World) (ht : Tab w) : Calls Tryd.prog 28 #[a.val, .int .i64 s] w fun e w' => e = .returned (.bool (opensB a s)) ∧ Below w.heap.size w w' := by
  obtain ⟨ah, ad, ap, ⟨⟨xu, xs, xh, xa⟩, xn, xt, xp⟩⟩ := a
  have HV : Hid (AnsV.val ⟨ah, ad, ap, ⟨⟨xu, xs, xh, xa⟩, xn, xt, xp⟩⟩ = .agg #[.int .i64 ah, .int .i64 ad, .int .i64 ap, .int .i64 xu, .int .i64 xs, .int .i64 xh, .int .i64 xa, .int .i64 xn, .string xt, .bool xp]) := rfl
  rw [HV.out]
  dsimp only at hi
  have HTB := Lib.hid ht
  clear ht HV
  have HR' : opensB ⟨ah, ad, ap, ⟨⟨xu, xs, xh, xa⟩, xn, xt, xp⟩⟩ s = (openB ⟨⟨xu, xs, xh, xa⟩, xn, xt, xp⟩ (handK s ah ad) 0 && ((openT ⟨⟨xu, xs, xh, xa⟩, xn, xt, xp⟩ (handK s ah ad) 0).toList == (intT ap).toList)) := rfl
  have cK' := fun w' => HandKey_impl s ah ad w'
  have cO' := fun w' => Opened_impl ⟨⟨xu, xs, xh, xa⟩, xn, xt, xp⟩ (handK s ah ad) 0 w'
  have HK : rightK ⟨3, s, ah, ad⟩ = handK s ah ad := rfl
  rw [HK] at cK'
  clear HK
  have cW : Hid (∀ w' : World, Tab w' → Calls Tryd.prog 25 #[.agg #[.int .i64 ah, .int .i64 ad, .int .i64 ap, .int .i64 xu, .int .i64 xs, .int .i64 xh, .int .i64 xa, .int .i64 xn, .string xt, .bool xp]] w' fun e w'' => e = .returned (.string (intT ap)) ∧ Below w'.heap.size w' w'') := fun w' hT => writtenPick_any ⟨ah, ad, ap, ⟨⟨xu, xs, xh, xa⟩, xn, xt, xp⟩⟩ hi w' hT
  obtain ⟨⟨ku, ks, kh, ka⟩, hk⟩ : ∃ x, handK s ah ad = x := ⟨_, rfl⟩
  rw [hk] at cK' cO' HR'
  clear hk
  generalize openB ⟨⟨xu, xs, xh, xa⟩, xn, xt, xp⟩ ⟨ku, ks, kh, ka⟩ 0 = ob at cO' HR'
  generalize openT ⟨⟨xu, xs, xh, xa⟩, xn, xt, xp⟩ ⟨ku, ks, kh, ka⟩ 0 = ot at cO' HR'
  generalize intT ap = tx at cW HR'
  have HR : Hid (opensB ⟨ah, ad, ap, ⟨⟨xu, xs, xh, xa⟩, xn, xt, xp⟩⟩ s = (ob && (ot.toList == tx.toList))) := HR'
  have cK : Hid (∀ w' : World, Calls Tryd.prog 24 #[.int .i64 s, .int .i64 ah, .int .i64 ad] w' fun e w'' => e = .returned (.agg #[.int .i64 ku, .int .i64 ks, .int .i64 kh, .int .i64 ka]) ∧ Below w'.heap.size w' w'') := fun w' => cK' w'
  have cO : Hid (∀ w' : World, Calls Tryd.prog 49 #[.agg #[.int .i64 xu, .int .i64 xs, .int .i64 xh, .int .i64 xa, .int .i64 xn, .string xt, .bool xp], .agg #[.int .i64 ku, .int .i64 ks, .int .i64 kh, .int .i64 ka], .int .i64 0] w' fun e w'' => e = .returned (.tuple #[.string ot, .bool ob]) ∧ Below w'.heap.size w' w'') := fun w' => cO' w'
  clear cK' cO' HR' hi
  obtain ⟨W0, hW0⟩ : ∃ W, w.alloc (.cells #[.int .i64 ah, .int .i64 ad, .int .i64 ap, .int .i64 xu, .int .i64 xs, .int .i64 xh, .int .i64 xa, .int .i64 xn, .string xt, .bool xp] 63) = W := ⟨_, rfl⟩
  have K0 : Hid (Below w.heap.size w W0) := by rw [← hW0]; exact (Below.refl _ w).alloc (Nat.le_refl _) _
  have A0 : Hid (W0.heap[w.heap.size]? = some (.cells #[.int .i64 ah, .int .i64 ad, .int .i64 ap, .int .i64 xu, .int .i64 xs, .int .i64 xh, .int .i64 xa, .int .i64 xn, .string xt, .bool xp] 63)) := by rw [← hW0]; exact heap1 w _
  obtain ⟨⟨a0, a1, a2, a3, a4, a5, a6, a7, a8, a9⟩, _⟩ := blk10 A0.out
  go_enter Tryd.func28, Tryd.ntmps28
  go_wp2_with fail
  clear hW0
  clear a0 a1 a2 a3 a4 a5 a6 a7 a8 a9
  refine wp_region_own (W := W0) [] (fun _ => True) stays_true trivial [0, 0, 0, 0, 0, 0, 0, 0, 0, 0, 1, 1, 0, 0, 0, 0, 0] (by kernel_rfl) (by kernel_rfl) (by kernel_rfl) ?_
  have fA : ∀ q : In (plainEnv W0 []), _ := fun q => (blk10 (q.block A0.out (by simp))).1
  refine wpO_quiet 10 rfl (by kernel_rfl) ?_
  simp only [List.take, List.drop]
  repeat (go_big_quiet_step (fail))
  refine wpQuiet_nil ?_
  refine wpO_call (f := 24) (args := #[.int .i64 s, .int .i64 ah, .int .i64 ad]) (.agg #[.int .i64 ku, .int .i64 ks, .int .i64 kh, .int .i64 ka]) rfl (fun w' => by simp [go_sem]) (fun w' hC _ => cK.out w') ?_
  simp only [Act.put, List.setIfInBounds_toArray, List.set_cons_succ, List.set_cons_zero]
  refine wpO_call (f := 49) (args := #[.agg #[.int .i64 xu, .int .i64 xs, .int .i64 xh, .int .i64 xa, .int .i64 xn, .string xt, .bool xp], .agg #[.int .i64 ku, .int .i64 ks, .int .i64 kh, .int .i64 ka], .int .i64 0]) (.tuple #[.string ot, .bool ob]) rfl (fun w' => by simp [go_sem]) (fun w' hC _ => cO.out w') ?_
  simp only [Act.put, List.setIfInBounds_toArray, List.set_cons_succ, List.set_cons_zero]
  refine wpO_quiet 5 rfl (by kernel_rfl) ?_
  simp only [List.take, List.drop]
  repeat (go_big_quiet_step (fail))
  refine wpQuiet_nil ?_
  refine wpO_nil ?_
  rintro w1 hb' _
  have hb := kept_below hb'
  have A1 := Lib.hid (blk_on hb A0.out)
  have K1 := Lib.hid (K0.out.trans (hb.mono K0.out.size))
  clear fA hb hb' A0 K0
  cases ob with
  | false =>
    go_wp2_with fail
    go_ret
    exact ⟨by rw [HR.out]; rfl, K1.out⟩
  | true =>
    go_wp2_with (refine wpList_load_wanted rfl 31 _ rfl (w.heap.size) rfl 63 _ (0, 0) _ A1.out Tryd.underlying31 rfl (by kernel_rfl) ?_)
    refine (cW.out _ (HTB.out.on K1.out)).mono ?_
    rintro e w2 ⟨rfl, hb⟩
    have A2 := Lib.hid (blk_on hb A1.out)
    have K2 := Lib.hid (K1.out.trans (hb.mono K1.out.size))
    clear hb A1 K1
    cases ht : ot.toList == tx.toList
    ·
      rw [ht] at HR
      go_wp2_with fail
      go_ret
      exact ⟨by rw [HR.out]; rfl, K2.out⟩
    ·
      rw [ht] at HR
      go_wp2_with fail
      go_ret
      exact ⟨by rw [HR.out]; rfl, K2.out⟩

set_option maxRecDepth 100000 in
set_option maxHeartbeats 16000000 in
theorem Proves_impl (a : AnsV) (s : Int) (hi : I64 a.p) (w : World) (ht : Tab w) : Calls Tryd.prog 10 #[a.val, .int .i64 s] w fun e w' => e = .returned (.bool (provesB a s)) ∧ Below w.heap.size w w' := by
  have h0 : ansOkB a = false → provesB a s = false := fun e => by rw [provesB, e]; rfl
  have hc : ansOkB a = true → (shapeV a = .iface 65 a.val ∧ provesB a s = opensB a 0) ∨ (shapeV a = .iface 67 a.val ∧ provesB a s = (isDrawB s && opensB a s)) ∨ (shapeV a = .iface 68 a.val ∧ provesB a s = true) := fun e => by
    have hr := (ok_ranges e).2.1
    rcases shape_cases a with ⟨hq, h⟩ | ⟨hq, h⟩ | ⟨hq, h⟩ | ⟨_, h⟩
    · refine .inl ⟨hq, ?_⟩
      rw [provesB, e, bne_int (show a.p ≠ 4 by omega), beq_int h]; rfl
    · refine .inr (.inl ⟨hq, ?_⟩)
      rw [provesB, e, bne_int (show a.p ≠ 4 by omega), bne_int (show a.p ≠ 1 by omega)]; simp
    · refine .inr (.inr ⟨hq, ?_⟩)
      rw [provesB, e, beq_int h]; rfl
    · exact absurd hr h
  obtain ⟨ah, ad, ap, ⟨⟨xu, xs, xh, xa⟩, xn, xt, xp⟩⟩ := a
  have HV : Hid (AnsV.val ⟨ah, ad, ap, ⟨⟨xu, xs, xh, xa⟩, xn, xt, xp⟩⟩ = .agg #[.int .i64 ah, .int .i64 ad, .int .i64 ap, .int .i64 xu, .int .i64 xs, .int .i64 xh, .int .i64 xa, .int .i64 xn, .string xt, .bool xp]) := rfl
  rw [HV.out]
  rw [HV.out] at hc
  dsimp only at hi
  have HTB := Lib.hid ht
  have H0 := Lib.hid h0
  have HC := Lib.hid hc
  clear ht h0 hc HV
  have cA : Hid (∀ w' : World, Calls Tryd.prog 13 #[.agg #[.int .i64 ah, .int .i64 ad, .int .i64 ap, .int .i64 xu, .int .i64 xs, .int .i64 xh, .int .i64 xa, .int .i64 xn, .string xt, .bool xp]] w' fun e w'' => e = .returned (.bool (ansOkB ⟨ah, ad, ap, ⟨⟨xu, xs, xh, xa⟩, xn, xt, xp⟩⟩)) ∧ Below w'.heap.size w' w'') := fun w' => by exact AnswerOk_impl ⟨ah, ad, ap, ⟨⟨xu, xs, xh, xa⟩, xn, xt, xp⟩⟩ w'
  have cS : Hid (∀ w' : World, Calls Tryd.prog 27 #[.agg #[.int .i64 ah, .int .i64 ad, .int .i64 ap, .int .i64 xu, .int .i64 xs, .int .i64 xh, .int .i64 xa, .int .i64 xn, .string xt, .bool xp]] w' fun e w'' => e = .returned (shapeV ⟨ah, ad, ap, ⟨⟨xu, xs, xh, xa⟩, xn, xt, xp⟩⟩) ∧ Below w'.heap.size w' w'') := fun w' => by exact shapeOf_any ⟨ah, ad, ap, ⟨⟨xu, xs, xh, xa⟩, xn, xt, xp⟩⟩ w'
  have cD : Hid (∀ w' : World, Calls Tryd.prog 29 #[.int .i64 s] w' fun e w'' => e = .returned (.bool (isDrawB s)) ∧ Below w'.heap.size w' w'') := fun w' => by exact IsDraw_impl s w'
  have c0 : Hid (∀ w' : World, Tab w' → Calls Tryd.prog 28 #[.agg #[.int .i64 ah, .int .i64 ad, .int .i64 ap, .int .i64 xu, .int .i64 xs, .int .i64 xh, .int .i64 xa, .int .i64 xn, .string xt, .bool xp], .int .i64 0] w' fun e w'' => e = .returned (.bool (opensB ⟨ah, ad, ap, ⟨⟨xu, xs, xh, xa⟩, xn, xt, xp⟩⟩ 0)) ∧ Below w'.heap.size w' w'') := fun w' hT => opensBy_any ⟨ah, ad, ap, ⟨⟨xu, xs, xh, xa⟩, xn, xt, xp⟩⟩ 0 hi w' hT
  have c1 : Hid (∀ w' : World, Tab w' → Calls Tryd.prog 28 #[.agg #[.int .i64 ah, .int .i64 ad, .int .i64 ap, .int .i64 xu, .int .i64 xs, .int .i64 xh, .int .i64 xa, .int .i64 xn, .string xt, .bool xp], .int .i64 s] w' fun e w'' => e = .returned (.bool (opensB ⟨ah, ad, ap, ⟨⟨xu, xs, xh, xa⟩, xn, xt, xp⟩⟩ s)) ∧ Below w'.heap.size w' w'') := fun w' hT => opensBy_any ⟨ah, ad, ap, ⟨⟨xu, xs, xh, xa⟩, xn, xt, xp⟩⟩ s hi w' hT
  generalize ansOkB ⟨ah, ad, ap, ⟨⟨xu, xs, xh, xa⟩, xn, xt, xp⟩⟩ = zo at H0 HC cA
  generalize shapeV ⟨ah, ad, ap, ⟨⟨xu, xs, xh, xa⟩, xn, xt, xp⟩⟩ = sv at HC cS
  generalize isDrawB s = zd at HC cD
  generalize opensB ⟨ah, ad, ap, ⟨⟨xu, xs, xh, xa⟩, xn, xt, xp⟩⟩ 0 = o0 at HC c0
  generalize opensB ⟨ah, ad, ap, ⟨⟨xu, xs, xh, xa⟩, xn, xt, xp⟩⟩ s = o1 at HC c1
  generalize provesB ⟨ah, ad, ap, ⟨⟨xu, xs, xh, xa⟩, xn, xt, xp⟩⟩ s = res at H0 HC ⊢
  clear hi
  obtain ⟨W0, hW0⟩ : ∃ W, w.alloc (.cells #[.int .i64 ah, .int .i64 ad, .int .i64 ap, .int .i64 xu, .int .i64 xs, .int .i64 xh, .int .i64 xa, .int .i64 xn, .string xt, .bool xp] 31) = W := ⟨_, rfl⟩
  have K0 : Hid (Below w.heap.size w W0) := by rw [← hW0]; exact (Below.refl _ w).alloc (Nat.le_refl _) _
  have A0 : Hid (W0.heap[w.heap.size]? = some (.cells #[.int .i64 ah, .int .i64 ad, .int .i64 ap, .int .i64 xu, .int .i64 xs, .int .i64 xh, .int .i64 xa, .int .i64 xn, .string xt, .bool xp] 31)) := by rw [← hW0]; exact heap1 w _
  go_enter Tryd.func10, Tryd.ntmps10
  go_wp2_with (refine wpList_load_row rfl 31 _ rfl (w.heap.size) rfl 31 _ (0, 0) _ A0.out Tryd.underlying31 rfl (by kernel_rfl) ?_)
  clear hW0
  refine (cA.out _).mono ?_
  rintro e w1 ⟨rfl, hb⟩
  have A1 := Lib.hid (blk_on hb A0.out)
  have K1 := Lib.hid (K0.out.trans (hb.mono K0.out.size))
  clear hb A0 K0
  cases zo with
  | false =>
    have HE := Lib.hid (H0.out rfl)
    go_wp2_with fail
    go_ret
    exact ⟨by rw [HE.out]; rfl, K1.out⟩
  | true =>
    have HC1 := Lib.hid (HC.out rfl)
    clear HC H0
    go_wp2_with (refine wpList_load_row rfl 31 _ rfl (w.heap.size) rfl 31 _ (0, 0) _ A1.out Tryd.underlying31 rfl (by kernel_rfl) ?_)
    refine (cS.out _).mono ?_
    rintro e w2 ⟨rfl, hb⟩
    have A2 := Lib.hid (blk_on hb A1.out)
    have K2 := Lib.hid (K1.out.trans (hb.mono K1.out.size))
    clear hb A1 K1
    rcases HC1.out with ⟨hq, h⟩ | ⟨hq, h⟩ | ⟨hq, h⟩
    ·
      have HE := Lib.hid h
      subst hq
      clear h HC1
      have as0 := assert00 (.agg #[.int .i64 ah, .int .i64 ad, .int .i64 ap, .int .i64 xu, .int .i64 xs, .int .i64 xh, .int .i64 xa, .int .i64 xn, .string xt, .bool xp])
      obtain ⟨V3, hV3⟩ : ∃ V, w2.alloc (.cells #[.int .i64 0, .int .i64 0, .int .i64 0, .int .i64 0, .int .i64 0, .int .i64 0, .int .i64 0, .int .i64 0, .string ⟨#[]⟩, .bool false] 65) = V := ⟨_, rfl⟩
      have ltV3A : w.heap.size < w2.heap.size := blk_in A2.out
      have A3 : Hid (V3.heap[w.heap.size]? = some (.cells #[.int .i64 ah, .int .i64 ad, .int .i64 ap, .int .i64 xu, .int .i64 xs, .int .i64 xh, .int .i64 xa, .int .i64 xn, .string xt, .bool xp] 31)) := by rw [← hV3]; exact alloc_blk A2.out
      have hb : Below w2.heap.size w2 V3 := by rw [← hV3]; exact (Below.refl _ w2).alloc (Nat.le_refl _) _
      have K3 := Lib.hid (K2.out.trans (hb.mono K2.out.size))
      have S3 : Hid (V3.heap[w2.heap.size]? = some (.cells #[.int .i64 0, .int .i64 0, .int .i64 0, .int .i64 0, .int .i64 0, .int .i64 0, .int .i64 0, .int .i64 0, .string ⟨#[]⟩, .bool false] 65)) := by rw [← hV3]; exact heap1 w2 _
      have lbV3 : w.heap.size ≤ w2.heap.size := K2.out.size
      clear hb A2 K2
      have A4 : Hid ((V3.setRow w2.heap.size #[.int .i64 ah, .int .i64 ad, .int .i64 ap, .int .i64 xu, .int .i64 xs, .int .i64 xh, .int .i64 xa, .int .i64 xn, .string xt, .bool xp]).heap[w.heap.size]? = some (.cells #[.int .i64 ah, .int .i64 ad, .int .i64 ap, .int .i64 xu, .int .i64 xs, .int .i64 xh, .int .i64 xa, .int .i64 xn, .string xt, .bool xp] 31)) := (setRow_other _ _ _ _ (by omega)).trans A3.out
      have S4 : Hid ((V3.setRow w2.heap.size #[.int .i64 ah, .int .i64 ad, .int .i64 ap, .int .i64 xu, .int .i64 xs, .int .i64 xh, .int .i64 xa, .int .i64 xn, .string xt, .bool xp]).heap[w2.heap.size]? = some (.cells #[.int .i64 ah, .int .i64 ad, .int .i64 ap, .int .i64 xu, .int .i64 xs, .int .i64 xh, .int .i64 xa, .int .i64 xn, .string xt, .bool xp] 65)) := setRow_heap _ _ _ _ _ _ S3.out
      have K4 : Hid (Below w.heap.size w (V3.setRow w2.heap.size #[.int .i64 ah, .int .i64 ad, .int .i64 ap, .int .i64 xu, .int .i64 xs, .int .i64 xh, .int .i64 xa, .int .i64 xn, .string xt, .bool xp])) := below_setRow K3.out (by omega) _
      go_wp2_with (first | (refine wpList_store_row rfl 65 _ _ rfl (w2.heap.size) #[.int .i64 ah, .int .i64 ad, .int .i64 ap, .int .i64 xu, .int .i64 xs, .int .i64 xh, .int .i64 xa, .int .i64 xn, .string xt, .bool xp] rfl rfl 65 _ S3.out (by kernel_rfl) rfl (by simp [Value.oneCell']) ?_) | (refine wpList_load_row rfl 63 _ rfl (w2.heap.size) rfl 65 _ (0, 0) _ S4.out Tryd.underlying63 rfl (by kernel_rfl) ?_))
      clear hV3 A3 S3 K3
      generalize V3.setRow w2.heap.size #[.int .i64 ah, .int .i64 ad, .int .i64 ap, .int .i64 xu, .int .i64 xs, .int .i64 xh, .int .i64 xa, .int .i64 xn, .string xt, .bool xp] = S4 at A4 S4 K4 ⊢
      refine (c0.out _ (HTB.out.on K4.out)).mono ?_
      rintro e w5 ⟨rfl, hb⟩
      have A5 := Lib.hid (blk_on hb A4.out)
      have S5 := Lib.hid (blk_on hb S4.out)
      have K5 := Lib.hid (K4.out.trans (hb.mono K4.out.size))
      clear hb A4 S4 K4
      go_wp2_with fail
      go_ret
      exact ⟨by rw [HE.out]; rfl, K5.out⟩
    ·
      have HE := Lib.hid h
      subst hq
      clear h HC1
      have as0 := assert10 (.agg #[.int .i64 ah, .int .i64 ad, .int .i64 ap, .int .i64 xu, .int .i64 xs, .int .i64 xh, .int .i64 xa, .int .i64 xn, .string xt, .bool xp])
      have as1 := assert11 (.agg #[.int .i64 ah, .int .i64 ad, .int .i64 ap, .int .i64 xu, .int .i64 xs, .int .i64 xh, .int .i64 xa, .int .i64 xn, .string xt, .bool xp])
      obtain ⟨V3, hV3⟩ : ∃ V, w2.alloc (.cells #[.int .i64 0, .int .i64 0, .int .i64 0, .int .i64 0, .int .i64 0, .int .i64 0, .int .i64 0, .int .i64 0, .string ⟨#[]⟩, .bool false] 67) = V := ⟨_, rfl⟩
      have ltV3A : w.heap.size < w2.heap.size := blk_in A2.out
      have A3 : Hid (V3.heap[w.heap.size]? = some (.cells #[.int .i64 ah, .int .i64 ad, .int .i64 ap, .int .i64 xu, .int .i64 xs, .int .i64 xh, .int .i64 xa, .int .i64 xn, .string xt, .bool xp] 31)) := by rw [← hV3]; exact alloc_blk A2.out
      have hb : Below w2.heap.size w2 V3 := by rw [← hV3]; exact (Below.refl _ w2).alloc (Nat.le_refl _) _
      have K3 := Lib.hid (K2.out.trans (hb.mono K2.out.size))
      have S3 : Hid (V3.heap[w2.heap.size]? = some (.cells #[.int .i64 0, .int .i64 0, .int .i64 0, .int .i64 0, .int .i64 0, .int .i64 0, .int .i64 0, .int .i64 0, .string ⟨#[]⟩, .bool false] 67)) := by rw [← hV3]; exact heap1 w2 _
      have lbV3 : w.heap.size ≤ w2.heap.size := K2.out.size
      clear hb A2 K2
      have A4 : Hid ((V3.setRow w2.heap.size #[.int .i64 ah, .int .i64 ad, .int .i64 ap, .int .i64 xu, .int .i64 xs, .int .i64 xh, .int .i64 xa, .int .i64 xn, .string xt, .bool xp]).heap[w.heap.size]? = some (.cells #[.int .i64 ah, .int .i64 ad, .int .i64 ap, .int .i64 xu, .int .i64 xs, .int .i64 xh, .int .i64 xa, .int .i64 xn, .string xt, .bool xp] 31)) := (setRow_other _ _ _ _ (by omega)).trans A3.out
      have S4 : Hid ((V3.setRow w2.heap.size #[.int .i64 ah, .int .i64 ad, .int .i64 ap, .int .i64 xu, .int .i64 xs, .int .i64 xh, .int .i64 xa, .int .i64 xn, .string xt, .bool xp]).heap[w2.heap.size]? = some (.cells #[.int .i64 ah, .int .i64 ad, .int .i64 ap, .int .i64 xu, .int .i64 xs, .int .i64 xh, .int .i64 xa, .int .i64 xn, .string xt, .bool xp] 67)) := setRow_heap _ _ _ _ _ _ S3.out
      have K4 : Hid (Below w.heap.size w (V3.setRow w2.heap.size #[.int .i64 ah, .int .i64 ad, .int .i64 ap, .int .i64 xu, .int .i64 xs, .int .i64 xh, .int .i64 xa, .int .i64 xn, .string xt, .bool xp])) := below_setRow K3.out (by omega) _
      go_wp2_with (refine wpList_store_row rfl 67 _ _ rfl (w2.heap.size) #[.int .i64 ah, .int .i64 ad, .int .i64 ap, .int .i64 xu, .int .i64 xs, .int .i64 xh, .int .i64 xa, .int .i64 xn, .string xt, .bool xp] rfl rfl 67 _ S3.out (by kernel_rfl) rfl (by simp [Value.oneCell']) ?_)
      clear hV3 A3 S3 K3
      generalize V3.setRow w2.heap.size #[.int .i64 ah, .int .i64 ad, .int .i64 ap, .int .i64 xu, .int .i64 xs, .int .i64 xh, .int .i64 xa, .int .i64 xn, .string xt, .bool xp] = S4 at A4 S4 K4 ⊢
      refine (cD.out _).mono ?_
      rintro e w5 ⟨rfl, hb⟩
      have A5 := Lib.hid (blk_on hb A4.out)
      have S5 := Lib.hid (blk_on hb S4.out)
      have K5 := Lib.hid (K4.out.trans (hb.mono K4.out.size))
      clear hb A4 S4 K4
      cases zd with
      | false =>
        go_wp2_with fail
        go_ret
        exact ⟨by rw [HE.out]; rfl, K5.out⟩
      | true =>
        go_wp2_with (refine wpList_load_wanted rfl 63 _ rfl (w2.heap.size) rfl 67 _ (0, 0) _ S5.out Tryd.underlying63 rfl (by kernel_rfl) ?_)
        refine (c1.out _ (HTB.out.on K5.out)).mono ?_
        rintro e w6 ⟨rfl, hb⟩
        have A6 := Lib.hid (blk_on hb A5.out)
        have S6 := Lib.hid (blk_on hb S5.out)
        have K6 := Lib.hid (K5.out.trans (hb.mono K5.out.size))
        clear hb A5 S5 K5
        go_wp2_with fail
        go_ret
        exact ⟨by rw [HE.out]; rfl, K6.out⟩
    ·
      have HE := Lib.hid h
      subst hq
      clear h HC1
      have as0 := assert20 (.agg #[.int .i64 ah, .int .i64 ad, .int .i64 ap, .int .i64 xu, .int .i64 xs, .int .i64 xh, .int .i64 xa, .int .i64 xn, .string xt, .bool xp])
      have as1 := assert21 (.agg #[.int .i64 ah, .int .i64 ad, .int .i64 ap, .int .i64 xu, .int .i64 xs, .int .i64 xh, .int .i64 xa, .int .i64 xn, .string xt, .bool xp])
      have as2 := assert22 (.agg #[.int .i64 ah, .int .i64 ad, .int .i64 ap, .int .i64 xu, .int .i64 xs, .int .i64 xh, .int .i64 xa, .int .i64 xn, .string xt, .bool xp])
      obtain ⟨V3, hV3⟩ : ∃ V, w2.alloc (.cells #[.int .i64 0, .int .i64 0, .int .i64 0, .int .i64 0, .int .i64 0, .int .i64 0, .int .i64 0, .int .i64 0, .string ⟨#[]⟩, .bool false] 68) = V := ⟨_, rfl⟩
      have ltV3A : w.heap.size < w2.heap.size := blk_in A2.out
      have A3 : Hid (V3.heap[w.heap.size]? = some (.cells #[.int .i64 ah, .int .i64 ad, .int .i64 ap, .int .i64 xu, .int .i64 xs, .int .i64 xh, .int .i64 xa, .int .i64 xn, .string xt, .bool xp] 31)) := by rw [← hV3]; exact alloc_blk A2.out
      have hb : Below w2.heap.size w2 V3 := by rw [← hV3]; exact (Below.refl _ w2).alloc (Nat.le_refl _) _
      have K3 := Lib.hid (K2.out.trans (hb.mono K2.out.size))
      have S3 : Hid (V3.heap[w2.heap.size]? = some (.cells #[.int .i64 0, .int .i64 0, .int .i64 0, .int .i64 0, .int .i64 0, .int .i64 0, .int .i64 0, .int .i64 0, .string ⟨#[]⟩, .bool false] 68)) := by rw [← hV3]; exact heap1 w2 _
      have lbV3 : w.heap.size ≤ w2.heap.size := K2.out.size
      clear hb A2 K2
      have A4 : Hid ((V3.setRow w2.heap.size #[.int .i64 ah, .int .i64 ad, .int .i64 ap, .int .i64 xu, .int .i64 xs, .int .i64 xh, .int .i64 xa, .int .i64 xn, .string xt, .bool xp]).heap[w.heap.size]? = some (.cells #[.int .i64 ah, .int .i64 ad, .int .i64 ap, .int .i64 xu, .int .i64 xs, .int .i64 xh, .int .i64 xa, .int .i64 xn, .string xt, .bool xp] 31)) := (setRow_other _ _ _ _ (by omega)).trans A3.out
      have S4 : Hid ((V3.setRow w2.heap.size #[.int .i64 ah, .int .i64 ad, .int .i64 ap, .int .i64 xu, .int .i64 xs, .int .i64 xh, .int .i64 xa, .int .i64 xn, .string xt, .bool xp]).heap[w2.heap.size]? = some (.cells #[.int .i64 ah, .int .i64 ad, .int .i64 ap, .int .i64 xu, .int .i64 xs, .int .i64 xh, .int .i64 xa, .int .i64 xn, .string xt, .bool xp] 68)) := setRow_heap _ _ _ _ _ _ S3.out
      have K4 : Hid (Below w.heap.size w (V3.setRow w2.heap.size #[.int .i64 ah, .int .i64 ad, .int .i64 ap, .int .i64 xu, .int .i64 xs, .int .i64 xh, .int .i64 xa, .int .i64 xn, .string xt, .bool xp])) := below_setRow K3.out (by omega) _
      go_wp2_with (refine wpList_store_row rfl 68 _ _ rfl (w2.heap.size) #[.int .i64 ah, .int .i64 ad, .int .i64 ap, .int .i64 xu, .int .i64 xs, .int .i64 xh, .int .i64 xa, .int .i64 xn, .string xt, .bool xp] rfl rfl 68 _ S3.out (by kernel_rfl) rfl (by simp [Value.oneCell']) ?_)
      go_ret
      exact ⟨by rw [HE.out]; rfl, K4.out⟩

end Go.Proofs.YtdnkpdfhnpmhbaaDoor.Tx

/-
  What the program's own functions of chapter 6 answer that tell and write a token. Conditions: the numbers are int64; the library's table of powers of ten holds what its text lays in it.
-/
import Derived.Test.YtoffdlokndngeaaGreatDoorShelf
import Derived.Test.YtoffdlokndngeaaGreatDoorTokText
import Derived.Test.YtoffdlokndngeaaGreatDoorTokFacts
import Derived.Test.YtoffdlokndngeaaGreatDoorImpl4
import Derived.Lib.AppendIntMem
import Derived.Lib.Join
namespace Go.Proofs.YtoffdlokndngeaaGreatDoor.Tx
open Go.RowKit

/-- The table of powers of ten holds what the library's text lays in it. -/
def Tab (w : World) : Prop := Lib.TabIs Tryz.prog w "internal/strconv.uint64pow10" .u64 Lib.pow10Tab
theorem Tab.on {w w' : World} (h : Tab w) (b : Below w.heap.size w w') : Tab w' := Lib.tabBelow_of_tabIs h w' b

theorem dec_lib : ∀ n k : Nat, k < n → 0 < k → digL k = Lib.decDigits k
  | 0, _, h, _ => absurd h (Nat.not_lt_zero _)
  | n + 1, k, h, h0 => by
    rw [digL_pos h0, Lib.decDigits]
    by_cases hk : k < 10
    · rw [dif_pos hk, Nat.div_eq_of_lt hk, digL_zero, Nat.mod_eq_of_lt hk]; rfl
    · rw [dif_neg hk, dec_lib n (k / 10) (by omega) (by omega)]
theorem decL_lib (k : Nat) : decL k = Lib.decDigits k := by
  by_cases h : k = 0
  · subst h; rw [decL_zero, Lib.decDigits]; rfl
  · rw [decL_pos (by omega)]; exact dec_lib (k + 1) k (by omega) (by omega)
theorem int_lib (n : Int) : (⟨(Lib.itoa n).toArray⟩ : ByteArray) = intT n := by
  have e : Lib.itoa n = (intT n).data.toList := by
    unfold Lib.itoa intT
    by_cases h : n < 0
    · rw [if_pos h, if_pos h, bytes_app, ← decL_lib]; rfl
    · rw [if_neg h, if_neg h, ← decL_lib]
      have : n.toNat = n.natAbs := by omega
      rw [this]; rfl
  rw [e]
theorem join_lib (a b c d : ByteArray) : (⟨(Lib.join ([a, b, c, d].map (·.data.toList)) (⟨#[45]⟩ : ByteArray).data.toList).toArray⟩ : ByteArray) = joinT ⟨#[45]⟩ [a, b, c, d] := by
  have e : Lib.join ([a, b, c, d].map (·.data.toList)) (⟨#[45]⟩ : ByteArray).data.toList = (joinT ⟨#[45]⟩ [a, b, c, d]).data.toList := by
    simp only [joinT, tailsT, bytes_app, List.map_cons, List.map_nil, Lib.join_cons, Lib.joinTail, List.flatten_cons, List.flatten_nil]
    simp
  rw [e]

theorem fmt_any (n : Int) (h : I64 n) (w : World) (ht : Tab w) : Calls Tryz.prog 124 #[.int .i64 n, .int .i64 10] w fun e w' => e = .returned (.string (intT n)) ∧ Below w.heap.size w w' :=
  (Any.strconv_FormatInt_10 fmtL n h.1 h.2 w ht).mono fun _ _ ⟨he, k, os, hw⟩ => ⟨by rw [he, int_lib], hw ▸ Lib.below_grow _ _ (Nat.le_refl _) k os⟩
theorem join_any (a b c d : ByteArray) (ha : a.size ≤ 20) (hb : b.size ≤ 20) (hc : c.size ≤ 20) (hd : d.size ≤ 20) (B g cap : Nat) (w : World) (hM : MadeG w B 9 1 4 [.string a, .string b, .string c, .string d] g cap) :
    Calls Tryz.prog 125 #[.slice (some ⟨g, 0, none⟩) 4 cap, .string ⟨#[45]⟩] w fun e w' => e = .returned (.string (joinT ⟨#[45]⟩ [a, b, c, d])) ∧ Below w.heap.size w w' := by
  have hl : (Lib.join ([a, b, c, d].map (·.data.toList)) (⟨#[45]⟩ : ByteArray).data.toList).length ≤ 140737488355328 := by
    have e := congrArg ByteArray.size (join_lib a b c d)
    have e2 := joinT_size ⟨#[45]⟩ [a, b, c, d]
    have e3 : (⟨#[45]⟩ : ByteArray).size = 1 := rfl
    have e4 : (⟨(Lib.join ([a, b, c, d].map (·.data.toList)) (⟨#[45]⟩ : ByteArray).data.toList).toArray⟩ : ByteArray).size = (Lib.join ([a, b, c, d].map (·.data.toList)) (⟨#[45]⟩ : ByteArray).data.toList).length := by
      simp [ByteArray.size]
    rw [← e4, e]
    have e5 : sumB [a, b, c, d] = a.size + (b.size + (c.size + (d.size + 0))) := by simp [sumB]
    simp only [e3, e5, List.length_cons, List.length_nil] at e2
    omega
  refine (Any.strings_Join joinL joinX g 0 cap [a, b, c, d] ⟨#[45]⟩ w (fun j x hj => ?_) hM.base.2 (by simp) hM.cap.1 hl).mono fun e w' ⟨he, hw⟩ => ⟨by rw [he, join_lib], hw⟩
  rw [Nat.zero_add]
  refine hM.cell ?_
  have : ([a, b, c, d].map Value.string)[j]? = some (.string x) := by rw [List.getElem?_map, hj]; rfl
  exact this

set_option maxRecDepth 100000 in
set_option maxHeartbeats 4000000 in
theorem written_any (t : TokV) (h0 : I64 t.s) (h1 : I64 t.b) (h2 : I64 t.l) (h3 : I64 t.m) (w : World) (ht : Tab w) :
    Calls Tryz.prog 106 #[t.val] w fun e w' => e = .returned (.string (tokTxt t.s t.b t.l t.m)) ∧ Below w.heap.size w w' := by
  obtain ⟨i0, hi, hz0, hz1, hz2⟩ := info_parts infoString
  obtain ⟨ts, tb, tl, tm, ⟨⟨xu, xs, xh, xa⟩, xn, xt, xp⟩⟩ := t
  have HV : Hid (TokV.val ⟨ts, tb, tl, tm, ⟨⟨xu, xs, xh, xa⟩, xn, xt, xp⟩⟩ = .agg #[.int .i64 ts, .int .i64 tb, .int .i64 tl, .int .i64 tm, .int .i64 xu, .int .i64 xs, .int .i64 xh, .int .i64 xa, .int .i64 xn, .string xt, .bool xp]) := rfl
  rw [HV.out]
  dsimp only at h0 h1 h2 h3 ⊢
  have H0 := Lib.hid h0
  have H1 := Lib.hid h1
  have H2 := Lib.hid h2
  have H3 := Lib.hid h3
  have HT := Lib.hid ht
  clear h0 h1 h2 h3 ht
  have Hz0 := Lib.hid (intT_size ts H0.out)
  have Hz1 := Lib.hid (intT_size tb H1.out)
  have Hz2 := Lib.hid (intT_size tl H2.out)
  have Hz3 := Lib.hid (intT_size tm H3.out)
  go_enter Tryz.func106, Tryz.ntmps106
  go_wp2
  go_loopw [4, 18] (fun v i wr => ∃ (k g c : Nat), k ≤ 4 ∧ i = .int .i64 k ∧ v = .slice (some ⟨g, 0, none⟩) k c ∧ MadeG wr w.heap.size 9 1 k (([intT ts, intT tb, intT tl, intT tm].take k).map Value.string) g c ∧ Below w.heap.size w wr) (fun _ i _ => 4 - (intOf i).toNat)
  case atStart => exact ⟨0, w.heap.size + 1 + 1, 0, by omega, rfl, rfl, madeG_nil (heap3c w _ _ _) (by omega), (((Below.refl _ w).alloc (Nat.le_refl _) _).alloc (by simp) _).alloc (by simp <;> omega) _⟩
  case round =>
    obtain ⟨k, g, c, hk, rfl, rfl, hM, hB⟩ := hrel
    have HM := Lib.hid hM
    have HB := Lib.hid hB
    have hgb := hM.base
    have hsB := hB.size
    clear hM hB
    by_cases hlt : k < 4
    · obtain ⟨x, hx, hx2, hx3⟩ : ∃ x : Int, (∀ w' : World, (Instr.index 158 (.agg #[.int .i64 ts, .int .i64 tb, .int .i64 tl, .int .i64 tm]) (.int .i64 (k : Int))).run Tryz.prog w' = .ok (.int .i64 x) w') ∧ Hid (I64 x) ∧
          Hid (([intT ts, intT tb, intT tl, intT tm].take (k + 1)).map Value.string = ([intT ts, intT tb, intT tl, intT tm].take k).map Value.string ++ [.string (intT x)]) := by
        have hk' : k = 0 ∨ k = 1 ∨ k = 2 ∨ k = 3 := by omega
        rcases hk' with rfl | rfl | rfl | rfl
        · exact ⟨ts, fun _ => rfl, H0, rfl⟩
        · exact ⟨tb, fun _ => rfl, H1, rfl⟩
        · exact ⟨tl, fun _ => rfl, H2, rfl⟩
        · exact ⟨tm, fun _ => rfl, H3, rfl⟩
      have hki : (k : Int) < 4 := by omega
      go_wp2_with fail
      refine (fmt_any x hx2.out _ (HT.out.on HB.out)).mono ?_
      rintro e w1 ⟨rfl, hb1⟩
      obtain ⟨z, hz⟩ : ∃ z, intT x = z := ⟨_, rfl⟩
      rw [hz] at hx3 ⊢
      clear hz
      have HM1 := Lib.hid (HM.out.below hb1)
      have HB1 := Lib.hid (HB.out.trans (hb1.mono hsB))
      have hs1 := hb1.size
      clear hb1 hx
      go_wp2_with (at_builtin; refine wpList_append_own _ rfl _ _ 111 rfl w.heap.size 9 i0 (.string ByteArray.empty) 1 16 Tryz.underlying111 hi hz0 hz1 hz2 rfl (by decide) _ _ _ rfl (HM1.out.own.alloc _) ⟨w1.heap.size, 0, none⟩ 1 1 [.string z] rfl rfl (cells_new w1 [.string z] _) (by simp [Value.oneCell']) (by unfold maxLen; omega) (by omega) (by simp; omega) ?_; intro v' w3 hown' hgrow _; obtain ⟨gb', cb', rfl, hM'⟩ := madeG_of hown' (by omega); have HM' := Lib.hid hM'; have HGR := Lib.hid hgrow; clear hown' hgrow hM')
      go_roundw
      case rel => exact ⟨k + 1, gb', cb', by omega, by go_num, rfl, by rw [hx3.out]; exact HM'.out, (HB1.out.alloc HB1.out.size _).grown HGR.out (by simp; omega) (by intro k' e; have e1 := Option.some.inj e; dsimp only at e1; omega)⟩
      case measure => simp [intOf]; omega
    · obtain rfl : k = 4 := by omega
      have HM4 : Hid (MadeG wr w.heap.size 9 1 4 [.string (intT ts), .string (intT tb), .string (intT tl), .string (intT tm)] g c) := HM.out
      clear HM
      have HJ : Hid (tokTxt ts tb tl tm = joinT ⟨#[45]⟩ [intT ts, intT tb, intT tl, intT tm]) := rfl
      go_wp2_with fail
      refine (join_any _ _ _ _ Hz0.out Hz1.out Hz2.out Hz3.out w.heap.size g c _ HM4.out).mono ?_
      rintro e w1 ⟨rfl, hb1⟩
      have HB1 := Lib.hid (HB.out.trans (hb1.mono hsB))
      clear hb1
      rw [← HJ.out]
      go_wp2
      go_ret
      exact ⟨rfl, HB1.out⟩

end Go.Proofs.YtoffdlokndngeaaGreatDoor.Tx

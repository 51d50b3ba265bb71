/-
  What digitAt and numberAhead of the program answer: the digit at a place, and the number that a text begins with. No conditions.
-/
import Derived.Test.YtpegjdknlkpkbaaLead
import Derived.Test.YtpegjdknlkpkbaaGotos
import Derived.Test.YtpegjdknlkpkbaaRegionO
import Derived.OwnWalk
namespace Go.Proofs.Ytpegjdknlkpkbaa.Tx
open Go.RowKit

set_option maxHeartbeats 2000000 in
theorem digitAt_any (s : ByteArray) (k : Nat) (w : World) : Calls Try.prog 48 #[.string s, .int .i64 (k : Int)] w fun e w' => e = .returned (.int .i64 (dgI s k)) ∧ w = w' := by
  by_cases hlt : k < s.size
  · have HR := Lib.hid (dgI_some hlt)
    obtain ⟨y, hy⟩ : ∃ y, s[k] = y := ⟨_, rfl⟩
    have hx : (s[k].toNat : Int) = (y.toNat : Int) := by rw [hy]
    rw [hy] at HR
    obtain ⟨x, hyx⟩ : ∃ x, (y.toNat : Int) = x := ⟨_, rfl⟩
    rw [hyx] at hx HR
    have hx1 : 0 ≤ x ∧ x ≤ 255 := by have := y.toNat_lt; omega
    have hki : ¬ (s.size : Int) ≤ (k : Int) := by omega
    by_cases hlo : x < 48
    · have HE : Hid (dgI s k = -1) := by show _ = _; rw [HR.out, if_neg]; simp [dgB]; omega
      go_enter Try.func48, Try.ntmps48
      go_wp2
      go_ret
      exact ⟨by rw [HE.out]; rfl, rfl⟩
    · by_cases hhi : 57 < x
      · have HE : Hid (dgI s k = -1) := by show _ = _; rw [HR.out, if_neg]; simp [dgB]; omega
        go_enter Try.func48, Try.ntmps48
        go_wp2
        go_ret
        exact ⟨by rw [HE.out]; rfl, rfl⟩
      · have HE : Hid (dgI s k = x - 48) := by show _ = _; rw [HR.out, if_pos]; simp [dgB]; omega
        go_enter Try.func48, Try.ntmps48
        go_wp2
        go_ret
        exact ⟨by rw [HE.out]; rfl, rfl⟩
  · have HE : Hid (dgI s k = -1) := dgI_none (by omega)
    have hki : (s.size : Int) ≤ (k : Int) := by omega
    go_enter Try.func48, Try.ntmps48
    go_wp2
    go_ret
    exact ⟨by rw [HE.out]; rfl, rfl⟩

/-- The frame: the text, n and at; the other slots hold whatever. -/
def Fr (s : ByteArray) (n k : Int) (a : Act) : Prop := ∃ (u1 u7 u8 u9 u10 u11 u12 u13 u14 u15 u16 u17 u18 u19 u20 u21 u22 u23 u24 u25 u26 u27 u28 u29 u30 u31 u32 u33 u34 u35 u36 u37 : Value), a = { tmps := #[.string s, u1, .int .i64 0, .string ⟨#[]⟩, .bool false, .int .i64 n, .int .i64 k, u7, u8, u9, u10, u11, u12, u13, u14, u15, u16, u17, u18, u19, u20, u21, u22, u23, u24, u25, u26, u27, u28, u29, u30, u31, u32, u33, u34, u35, u36, u37], defers := [] }
theorem Fr.to {s : ByteArray} {n n' k k' : Int} {a : Act} (h : Fr s n k a) (hn : n = n') (hk : k = k') : Fr s n' k' a := by subst hn; subst hk; exact h
/-- What holds where the run jumps to a label. -/
def JWrong (s : ByteArray) (w : World) (a : Act) (w' : World) : Prop := NoNum s ∧ (∃ n k : Int, Fr s n k a) ∧ w = w'
def JNought (s : ByteArray) (w : World) (a : Act) (w' : World) : Prop := dgI s 0 = 0 ∧ Fr s 0 0 a ∧ w = w'
def JDigits (s : ByteArray) (w : World) (a : Act) (w' : World) : Prop := ∃ k n : Nat, k < 9 ∧ k < cntD s.data.toList ∧ n < 10 ^ k ∧ digN 0 (s.data.toList.take k) = some n ∧ (∀ c, s.data.toList.head? = some c → c.toNat ≠ 48) ∧ Fr s (n : Int) (k : Int) a ∧ w = w'
def JEnd (s : ByteArray) (w : World) (a : Act) (w' : World) : Prop := ∃ k n : Nat, k = cntD s.data.toList ∧ 1 ≤ k ∧ k ≤ 9 ∧ digN 0 (s.data.toList.take k) = some n ∧ (k = 1 ∨ ∀ c, s.data.toList.head? = some c → c.toNat ≠ 48) ∧ Fr s (n : Int) (k : Int) a ∧ w = w'
def JJ (s : ByteArray) (w : World) : Nat → Act → World → Prop
  | 0 => JWrong s w
  | 1 => JNought s w
  | 2 => JDigits s w
  | 3 => JEnd s w
  | _ => fun _ _ => False
def mu : Nat → Act → World → Nat
  | 0 => fun _ _ => 0
  | 3 => fun _ _ => 1
  | 1 => fun _ _ => 2
  | _ => fun a _ => 3 + (9 - (intOf (a.tmps.getD 6 undef)).toNat)
def NumOut (s : ByteArray) (w : World) (e : Ending) (w' : World) : Prop := ((∃ (n : Nat) (r : ByteArray), e = .returned (.tuple #[.int .i64 (n : Int), .string r, .bool true]) ∧ NumA s n r) ∨ (e = .returned (.tuple #[.int .i64 0, .string ⟨#[]⟩, .bool false]) ∧ NoNum s)) ∧ Below w.heap.size w w'

theorem not_zero {s : ByteArray} (h : 0 < cntD s.data.toList) (hx : dgI s 0 ≠ 0) : ∀ c, s.data.toList.head? = some c → c.toNat ≠ 48 := by
  intro c hc e
  obtain ⟨x, h0, hd⟩ := cnt_in _ _ h
  rw [List.head?_eq_getElem?, h0] at hc
  cases hc
  apply hx
  rw [dgI, h0]
  dsimp only
  rw [if_pos hd]
  omega
theorem is_zero {s : ByteArray} (h : 0 < cntD s.data.toList) (hx : dgI s 0 = 0) : ∃ c, s.data.toList.head? = some c ∧ c.toNat = 48 := by
  obtain ⟨x, h0, hd⟩ := cnt_in _ _ h
  refine ⟨x, by rw [List.head?_eq_getElem?, h0], ?_⟩
  rw [dgI, h0] at hx
  dsimp only at hx
  rw [if_pos hd] at hx
  omega
theorem ext_bytes (s : ByteArray) (k : Nat) : (s.extract k s.size).data.toList = s.data.toList.drop k := by
  rw [ByteArray.data_extract, Array.toList_extract]
  show List.take (s.size - k) (List.drop k s.data.toList) = _
  rw [List.take_of_length_le (by simp)]
set_option maxHeartbeats 8000000 in
theorem numberAhead_any (s : ByteArray) (w : World) : Calls Try.prog 45 #[.string s] w (NumOut s w) := by
  obtain ⟨x, hx⟩ : ∃ x, dgI s 0 = x := ⟨_, rfl⟩
  obtain ⟨y, hy⟩ : ∃ y, dgI s 1 = y := ⟨_, rfl⟩
  have cX : ∀ w' : World, Calls Try.prog 48 #[.string s, .int .i64 0] w' fun e w'' => e = .returned (.int .i64 x) ∧ w' = w'' := fun w' => by have := digitAt_any s 0 w'; rw [hx] at this; exact this
  have cY : ∀ w' : World, Calls Try.prog 48 #[.string s, .int .i64 1] w' fun e w'' => e = .returned (.int .i64 y) ∧ w' = w'' := fun w' => by have := digitAt_any s 1 w'; rw [hy] at this; exact this
  go_enter Try.func45, Try.ntmps45
  go_wp2
  refine wp_scope_labels (JJ s w) mu ?_ ?_
  · go_wp2_with fail
    refine (cX _).mono ?_
    rintro e w1 ⟨rfl, rfl⟩
    by_cases hx1 : x = -1
    · have hxb : (x == -1) = true := by rw [hx1]; rfl
      have HE := Lib.hid (dgI_stop (Nat.zero_le _) (hx.trans hx1))
      go_wp2
      go_step3
      exact ⟨.inl HE.out.symm, ⟨_, _, ⟨_, _, _, _, _, _, _, _, _, _, _, _, _, _, _, _, _, _, _, _, _, _, _, _, _, _, _, _, _, _, _, _, rfl⟩⟩, rfl⟩
    · have hxb : (x == -1) = false := by simpa using hx1
      by_cases hx0 : x = 0
      · have hxc : (x == 0) = true := by rw [hx0]; rfl
        have HE := Lib.hid (hx.trans hx0)
        go_wp2
        go_step3
        exact ⟨HE.out, ⟨_, _, _, _, _, _, _, _, _, _, _, _, _, _, _, _, _, _, _, _, _, _, _, _, _, _, _, _, _, _, _, _, rfl⟩, rfl⟩
      · have hxc : (x == 0) = false := by simpa using hx0
        have HC : Hid (0 < cntD s.data.toList) := dgI_go (Nat.zero_le _) (by rw [hx]; exact hx1)
        obtain ⟨hd0, hd9, hdv⟩ := digN_next (s := s) (k := 0) (n := 0) HC.out rfl
        rw [hx] at hd0 hd9 hdv
        have HV : Hid (digN 0 (s.data.toList.take 1) = some x.toNat) := by show _ = _; rw [hdv]; congr 1; omega
        have HH : Hid (∀ c, s.data.toList.head? = some c → c.toNat ≠ 48) := not_zero HC.out (by rw [hx]; exact hx0)
        have HY := Lib.hid hy
        have HN1 : Hid (x = ((x.toNat : Nat) : Int)) := by show _ = _; omega
        have HK1 : Hid ((1 : Int) = ((1 : Nat) : Int)) := rfl
        clear hdv hx hy
        go_wp2_with fail
        go_step3
        go_wp2_with fail
        refine (cX _).mono ?_
        rintro e w1 ⟨rfl, rfl⟩
        go_wp2_with fail
        refine (cY _).mono ?_
        rintro e w1 ⟨rfl, rfl⟩
        by_cases hy1 : y = -1
        · have hyb : (y == -1) = true := by rw [hy1]; rfl
          have HE := Lib.hid (dgI_stop (k := 1) HC.out (HY.out.trans hy1))
          go_wp2
          go_step3
          exact ⟨1, x.toNat, HE.out, by omega, by omega, HV.out, .inr HH.out, (Fr.to ⟨_, _, _, _, _, _, _, _, _, _, _, _, _, _, _, _, _, _, _, _, _, _, _, _, _, _, _, _, _, _, _, _, rfl⟩ HN1.out HK1.out), rfl⟩
        · have hyb : (y == -1) = false := by simpa using hy1
          have HE := Lib.hid (dgI_go (k := 1) HC.out (by rw [HY.out]; exact hy1))
          go_wp2
          go_step3
          exact ⟨1, x.toNat, by omega, HE.out, by omega, HV.out, HH.out, (Fr.to ⟨_, _, _, _, _, _, _, _, _, _, _, _, _, _, _, _, _, _, _, _, _, _, _, _, _, _, _, _, _, _, _, _, rfl⟩ HN1.out HK1.out), rfl⟩
  · rintro l a w' hJ
    match l, hJ with
    | 0, hJ =>
      obtain ⟨hn, ⟨n, k, u1, u7, u8, u9, u10, u11, u12, u13, u14, u15, u16, u17, u18, u19, u20, u21, u22, u23, u24, u25, u26, u27, u28, u29, u30, u31, u32, u33, u34, u35, u36, u37, rfl⟩, rfl⟩ := hJ
      refine ⟨_, rfl, ?_⟩
      have HN := Lib.hid hn
      clear hn hx hy cX cY
      go_wp2
      rw [jumps_ret]
      go_ret3
      exact ⟨.inr ⟨rfl, HN.out⟩, Below.refl _ _⟩
    | 1, hJ =>
      obtain ⟨h0, ⟨u1, u7, u8, u9, u10, u11, u12, u13, u14, u15, u16, u17, u18, u19, u20, u21, u22, u23, u24, u25, u26, u27, u28, u29, u30, u31, u32, u33, u34, u35, u36, u37, rfl⟩, rfl⟩ := hJ
      refine ⟨_, rfl, ?_⟩
      have HC : Hid (0 < cntD s.data.toList) := dgI_go (Nat.zero_le _) (by rw [h0]; omega)
      have HZ : Hid (∃ c, s.data.toList.head? = some c ∧ c.toNat = 48) := is_zero HC.out h0
      obtain ⟨_, _, hdv⟩ := digN_next (s := s) (k := 0) (n := 0) HC.out rfl
      have HV : Hid (digN 0 (s.data.toList.take 1) = some 0) := by show _ = _; rw [hdv, h0]; rfl
      have HY := Lib.hid hy
      clear hdv hx hy cX h0
      go_wp2_with fail
      refine (cY _).mono ?_
      rintro e w1 ⟨rfl, rfl⟩
      by_cases hy1 : y = -1
      · have hyb : (y == -1) = true := by rw [hy1]; rfl
        have HE := Lib.hid (dgI_stop (k := 1) HC.out (HY.out.trans hy1))
        go_wp2
        go_step3
        have hl1 : 1 ≤ s.size := by have h1 := cnt_le s.data.toList; have h2 := HE.out; rw [Array.length_toList] at h1; exact Nat.le_trans (Nat.le_of_eq h2) h1
        have HN : Hid (NumA s 0 (s.extract 1 s.size)) := ⟨by rw [← HE.out]; exact Nat.le_refl _, by rw [← HE.out]; omega, by rw [← HE.out]; exact HV.out, .inl HE.out.symm, by rw [← HE.out]; exact ext_bytes s 1⟩
        clear HE HV HC HZ HY cY hyb hy1
        have hks : (1 : Int) ≤ (s.size : Int) := by have := hl1; omega
        have hk0 : (0 : Int) ≤ (1 : Int) := by omega
        go_wp2
        refine wp_region_own (W := w) [] (fun _ => True) stays_true trivial [0, 0, 0, 0, 0, 0, 0] (by kernel_rfl) (by kernel_rfl) (by kernel_rfl) ?_
        refine wpO_quiet 7 rfl (by kernel_rfl) ?_
        simp only [List.take, List.drop]
        repeat (go_big_quiet_step (fail))
        refine wpQuiet_nil ?_
        refine wpO_nil ?_
        rintro w1 b1 _
        have B1 := Lib.hid (kept_below b1)
        clear b1
        go_wp2
        rw [jumps_ret]
        go_ret3
        exact ⟨.inl ⟨0, _, rfl, HN.out⟩, B1.out⟩
      · have hyb : (y == -1) = false := by simpa using hy1
        have HE := Lib.hid (dgI_go (k := 1) HC.out (by rw [HY.out]; exact hy1))
        go_wp2
        go_step3
        exact ⟨⟨.inr (.inr ⟨HE.out, HZ.out⟩), ⟨_, _, ⟨_, _, _, _, _, _, _, _, _, _, _, _, _, _, _, _, _, _, _, _, _, _, _, _, _, _, _, _, _, _, _, _, rfl⟩⟩, rfl⟩, by simp [mu]⟩
    | 2, hJ =>
      obtain ⟨k, n, hk9, hkc, hn, hv, hh, ⟨u1, u7, u8, u9, u10, u11, u12, u13, u14, u15, u16, u17, u18, u19, u20, u21, u22, u23, u24, u25, u26, u27, u28, u29, u30, u31, u32, u33, u34, u35, u36, u37, rfl⟩, rfl⟩ := hJ
      refine ⟨_, rfl, ?_⟩
      clear hx hy cX cY
      clear x y
      obtain ⟨hd0, hd9, hdv⟩ := digN_next hkc hv
      obtain ⟨x, hx⟩ : ∃ x, dgI s k = x := ⟨_, rfl⟩
      obtain ⟨y, hy⟩ : ∃ y, dgI s (k + 1) = y := ⟨_, rfl⟩
      rw [hx] at hd0 hd9 hdv
      have cX : ∀ w' : World, Calls Try.prog 48 #[.string s, .int .i64 (k : Int)] w' fun e w'' => e = .returned (.int .i64 x) ∧ w' = w'' := fun w' => by have := digitAt_any s k w'; rw [hx] at this; exact this
      have cY : ∀ w' : World, Calls Try.prog 48 #[.string s, .int .i64 ((k : Int) + 1)] w' fun e w'' => e = .returned (.int .i64 y) ∧ w' = w'' := fun w' => by have := digitAt_any s (k + 1) w'; rw [hy, show ((k + 1 : Nat) : Int) = (k : Int) + 1 by omega] at this; exact this
      have HC : Hid (k < cntD s.data.toList) := hkc
      have HV := Lib.hid hdv
      have HH := Lib.hid hh
      have HY := Lib.hid hy
      have HN1 : Hid ((n : Int) * 10 + x = ((n * 10 + x.toNat : Nat) : Int)) := by show _ = _; omega
      have HK1 : Hid ((k : Int) + 1 = ((k + 1 : Nat) : Int)) := by show _ = _; omega
      have hpow : 10 ^ k ≤ 10 ^ 8 := Nat.pow_le_pow_right (by omega) (by omega)
      have hm : (n : Int) * 10 ≤ 1000000000 := by omega
      have hm0 : 0 ≤ (n : Int) * 10 := by omega
      clear hdv hx hy hkc hv hh
      go_wp2_with fail
      refine (cX _).mono ?_
      rintro e w1 ⟨rfl, rfl⟩
      go_wp2_with fail
      refine (cY _).mono ?_
      rintro e w1 ⟨rfl, rfl⟩
      by_cases hy1 : y = -1
      · have hyb : (y == -1) = true := by rw [hy1]; rfl
        have HE := Lib.hid (dgI_stop (k := k + 1) HC.out (HY.out.trans hy1))
        go_wp2
        go_step3
        exact ⟨⟨k + 1, n * 10 + x.toNat, HE.out, by omega, by omega, HV.out, .inr HH.out, (Fr.to ⟨_, _, _, _, _, _, _, _, _, _, _, _, _, _, _, _, _, _, _, _, _, _, _, _, _, _, _, _, _, _, _, _, rfl⟩ HN1.out HK1.out), rfl⟩, by simp [mu, intOf]; omega⟩
      · have hyb : (y == -1) = false := by simpa using hy1
        have HE := Lib.hid (dgI_go (k := k + 1) HC.out (by rw [HY.out]; exact hy1))
        by_cases hk8 : k + 1 < 9
        · have hkb : (k : Int) + 1 < 9 := by omega
          go_wp2
          go_step3
          exact ⟨⟨k + 1, n * 10 + x.toNat, hk8, HE.out, by rw [Nat.pow_succ]; omega, HV.out, HH.out, (Fr.to ⟨_, _, _, _, _, _, _, _, _, _, _, _, _, _, _, _, _, _, _, _, _, _, _, _, _, _, _, _, _, _, _, _, rfl⟩ HN1.out HK1.out), rfl⟩, by simp [mu, intOf]; omega⟩
        · have hkb : ¬ (k : Int) + 1 < 9 := by omega
          go_wp2
          go_step3
          exact ⟨⟨.inr (.inl (by have := HE.out; omega)), ⟨_, _, ⟨_, _, _, _, _, _, _, _, _, _, _, _, _, _, _, _, _, _, _, _, _, _, _, _, _, _, _, _, _, _, _, _, rfl⟩⟩, rfl⟩, by simp [mu, intOf]; omega⟩
    | 3, hJ =>
      obtain ⟨k, n, hkc, h1, h9, hv, hh, ⟨u1, u7, u8, u9, u10, u11, u12, u13, u14, u15, u16, u17, u18, u19, u20, u21, u22, u23, u24, u25, u26, u27, u28, u29, u30, u31, u32, u33, u34, u35, u36, u37, rfl⟩, rfl⟩ := hJ
      refine ⟨_, rfl, ?_⟩
      have hkl : k ≤ s.size := by have := cnt_le s.data.toList; simp at this; omega
      have HN : Hid (NumA s n (s.extract k s.size)) := by
        show NumA _ _ _
        rw [hkc] at h1 h9 hv hh ⊢
        exact ⟨h1, h9, hv, hh, ext_bytes s _⟩
      clear hkc h1 h9 hv hh hx hy cX cY
      clear x y
      have hks : ((k : Nat) : Int) ≤ (s.size : Int) := by have := hkl; omega
      have hk0 : (0 : Int) ≤ ((k : Nat) : Int) := by omega
      go_wp2
      refine wp_region_own (W := w) [] (fun _ => True) stays_true trivial [0, 0, 0, 0, 0, 0, 0] (by kernel_rfl) (by kernel_rfl) (by kernel_rfl) ?_
      refine wpO_quiet 7 rfl (by kernel_rfl) ?_
      simp only [List.take, List.drop]
      repeat (go_big_quiet_step (fail))
      refine wpQuiet_nil ?_
      refine wpO_nil ?_
      rintro w1 b1 _
      have B1 := Lib.hid (kept_below b1)
      clear b1
      go_wp2
      rw [jumps_ret]
      go_ret3
      exact ⟨.inl ⟨n, _, rfl, HN.out⟩, B1.out⟩
    | _ + 4, hJ => exact hJ.elim

end Go.Proofs.Ytpegjdknlkpkbaa.Tx

/-
  What l1Read of the model answers: the number that a text tells. Condition: at most maxLen bytes.
-/
import Derived.Test.YtoffdlokndngeaaGreatDoorDigFacts
namespace Go.Proofs.YtoffdlokndngeaaGreatDoor.Tx
open Go.RowKit

/-- Does it begin with -? What is behind that? -/
def negB (l : List UInt8) : Bool := l.head? == some 45
def restB (l : List UInt8) : List UInt8 := l.drop (if negB l then 1 else 0)
def readT (s : ByteArray) : Option Int :=
  if 1 ≤ (restB s.data.toList).length ∧ (restB s.data.toList).length ≤ 9 then
    (digN 0 (restB s.data.toList)).bind fun n => if (restB s.data.toList).head? = some 48 ∧ (negB s.data.toList = true ∨ 1 < s.data.toList.length) then none else some (if negB s.data.toList then -(n : Int) else n)
  else none
theorem rest_at {l : List UInt8} {b : Bool} (h : negB l = b) : restB l = l.drop (if b then 1 else 0) := by rw [restB, h]
theorem neg_first {s : ByteArray} {b : Bool} (h1 : 0 < s.size) (h : negB s.data.toList = b) : ((s[0].toNat : Int) == 45) = b := by
  have hl : 0 < s.data.toList.length := by simpa using h1
  have e : s.data.toList.head? = some s[0] := by
    rw [List.head?_eq_getElem?, List.getElem?_eq_getElem hl]; rfl
  rw [negB, e] at h
  rw [← h]
  have : ((s[0].toNat : Int) = 45) ↔ s[0] = 45 := ⟨fun e => UInt8.toNat_inj.1 (by show _ = 45; omega), fun e => by rw [e]; rfl⟩
  by_cases hc : s[0] = 45
  · rw [hc]; rfl
  · have h2 : ¬ (s[0].toNat : Int) = 45 := fun e => hc (this.1 e)
    have h3 : ((s[0].toNat : Int) == 45) = false := by simpa using h2
    have h4 : (some s[0] == some (45 : UInt8)) = false := by simpa using hc
    rw [h3, h4]
theorem read_few {s : ByteArray} {b : Bool} (h : negB s.data.toList = b) (hl : s.data.toList.length < (if b then 1 else 0) + 1) : readT s = none := by
  rw [readT, if_neg]
  rw [rest_at h, List.length_drop]; omega
theorem read_many {s : ByteArray} {b : Bool} (h : negB s.data.toList = b) (hl : (if b then 1 else 0) + 9 < s.data.toList.length) : readT s = none := by
  rw [readT, if_neg]
  rw [rest_at h, List.length_drop]; omega
theorem read_in {s : ByteArray} {b : Bool} (h : negB s.data.toList = b) (hl : (if b then 1 else 0) + 1 ≤ s.data.toList.length ∧ s.data.toList.length ≤ (if b then 1 else 0) + 9) :
    readT s = (digN 0 (s.data.toList.drop (if b then 1 else 0))).bind fun n => if (s.data.toList.drop (if b then 1 else 0)).head? = some 48 ∧ (b = true ∨ 1 < s.data.toList.length) then none else some (if b then -(n : Int) else n) := by
  rw [readT, if_pos (by rw [rest_at h, List.length_drop]; omega), rest_at h, h]
theorem read_bad {s : ByteArray} {b : Bool} (h : negB s.data.toList = b) (hl : (if b then 1 else 0) + 1 ≤ s.data.toList.length ∧ s.data.toList.length ≤ (if b then 1 else 0) + 9) (hd : digN 0 (s.data.toList.drop (if b then 1 else 0)) = none) : readT s = none := by
  rw [read_in h hl, hd]; rfl
theorem read_zero {s : ByteArray} {b : Bool} {n : Nat} (h : negB s.data.toList = b) (hl : (if b then 1 else 0) + 1 ≤ s.data.toList.length ∧ s.data.toList.length ≤ (if b then 1 else 0) + 9) (hd : digN 0 (s.data.toList.drop (if b then 1 else 0)) = some n)
    (h0 : (s.data.toList.drop (if b then 1 else 0)).head? = some 48) (hb : negB s.data.toList = true ∨ 1 < s.data.toList.length) : readT s = none := by
  rw [read_in h hl, hd, Option.bind_some, if_pos ⟨h0, by rwa [h] at hb⟩]
theorem read_pos {s : ByteArray} {n : Nat} (h : negB s.data.toList = false) (hl : 0 + 1 ≤ s.data.toList.length ∧ s.data.toList.length ≤ 0 + 9) (hd : digN 0 (s.data.toList.drop 0) = some n)
    (h0 : (s.data.toList.drop 0).head? ≠ some 48 ∨ s.data.toList.length ≤ 1) : readT s = some (n : Int) := by
  rw [read_in h hl]
  simp only [if_neg Bool.false_ne_true]
  rw [hd, Option.bind_some, if_neg]
  rintro ⟨a, c | c⟩
  · cases c
  · rcases h0 with h0 | h0
    · exact h0 a
    · omega
theorem read_neg {s : ByteArray} {n : Nat} (h : negB s.data.toList = true) (hl : 1 + 1 ≤ s.data.toList.length ∧ s.data.toList.length ≤ 1 + 9) (hd : digN 0 (s.data.toList.drop 1) = some n)
    (h0 : (s.data.toList.drop 1).head? ≠ some 48) : readT s = some (-(n : Int)) := by
  rw [read_in h hl]
  simp only [if_true]
  rw [hd, Option.bind_some, if_neg]
  rintro ⟨a, _⟩
  exact h0 a
theorem first_at {s : ByteArray} {i : Nat} (h : i < s.size) : (s.data.toList.drop i).head? = some s[i] := by
  have hl : i < s.data.toList.length := by simpa using h
  rw [List.head?_drop, List.getElem?_eq_getElem hl]; rfl
theorem first_zero {s : ByteArray} {i : Nat} (h : i < s.size) (hx : (s[i].toNat : Int) = 48) : (s.data.toList.drop i).head? = some 48 := by
  rw [first_at h]; congr 1; exact UInt8.toNat_inj.1 (by show _ = 48; omega)
theorem first_not {s : ByteArray} {i : Nat} (h : i < s.size) (hx : ¬ (s[i].toNat : Int) = 48) : (s.data.toList.drop i).head? ≠ some 48 := by
  rw [first_at h]; intro e; apply hx; rw [Option.some.inj e]; rfl
theorem dig_step {s : ByteArray} {k : Nat} (h : k < s.size) {x : Int} (hx : (s[k].toNat : Int) = x) (n : Nat) :
    (x < 48 ∨ 57 < x → digN n (s.data.toList.drop k) = none) ∧ (48 ≤ x → x ≤ 57 → digN n (s.data.toList.drop k) = digN (n * 10 + (x - 48).toNat) (s.data.toList.drop (k + 1))) := by
  have hl : k < s.data.toList.length := by simpa using h
  have hd : s.data.toList.drop k = s[k] :: s.data.toList.drop (k + 1) := by rw [List.drop_eq_getElem_cons hl]; congr 1
  rw [hd]
  refine ⟨fun ho => ?_, fun a b => ?_⟩
  · rw [digN, if_neg (by omega)]
  · rw [digN, if_pos (by omega)]
    congr 2
    omega


set_option maxHeartbeats 4000000 in
theorem l1Read_neg (s : ByteArray) (hs : s.size ≤ 9223372036854775807) (h1 : 0 < s.size) (hn : negB s.data.toList = true) (w : World) : Calls Tryz.prog 81 #[.string s] w fun e w' => e = .returned (.tuple #[.int .i64 ((readT s).getD 0), .bool (readT s).isSome]) ∧ w = w' := by
  obtain ⟨hne1, hne2⟩ := empty_not (s := s) (by omega)
  obtain ⟨x0, hx0⟩ : ∃ x, (s[0].toNat : Int) = x := ⟨_, rfl⟩
  have h0b : (x0 == 45) = true := by rw [← hx0]; exact neg_first h1 hn
  have HN := Lib.hid hn
  clear hn
  by_cases hl : s.size < 2
  · have HR : Hid (readT s = none) := read_few HN.out (by simp; omega)
    have hl1 : decide ((s.size : Int) - 1 < 1) = true := decide_eq_true (by omega)
    go_enter Tryz.func81, Tryz.ntmps81
    go_wp2
    go_ret2
    exact ⟨by rw [HR.out]; rfl, rfl⟩
  by_cases hg : 10 < s.size
  · have HR : Hid (readT s = none) := read_many HN.out (by simp; omega)
    have hl1 : decide ((s.size : Int) - 1 < 1) = false := decide_eq_false (by omega)
    have hl2 : decide ((9 : Int) < (s.size : Int) - 1) = true := decide_eq_true (by omega)
    go_enter Tryz.func81, Tryz.ntmps81
    go_wp2
    go_ret2
    exact ⟨by rw [HR.out]; rfl, rfl⟩
  have hl1 : decide ((s.size : Int) - 1 < 1) = false := decide_eq_false (by omega)
  have hl2 : decide ((9 : Int) < (s.size : Int) - 1) = false := decide_eq_false (by omega)
  go_enter Tryz.func81, Tryz.ntmps81
  go_wp2
  go_loopw [6, 7] (fun a b wr => ∃ (k n : Nat), 1 ≤ k ∧ k ≤ s.size ∧ b = .int .i64 (k : Int) ∧ a = .int .i64 (n : Int) ∧ n < 10 ^ (k - 1) ∧ digN 0 (s.data.toList.drop 1) = digN n (s.data.toList.drop k) ∧ w = wr) (fun _ b _ => s.size - (intOf b).toNat)
  case atStart => exact ⟨1, 0, Nat.le_refl _, by omega, rfl, rfl, by simp, rfl, rfl⟩
  case round =>
    obtain ⟨k, n, hik, hk, rfl, rfl, hnn, hd, rfl⟩ := hrel
    have HD := Lib.hid hd
    clear hd
    have hp : 10 ^ (k - 1) ≤ 10 ^ 9 := Nat.pow_le_pow_right (by omega) (by omega)
    by_cases hlt : k < s.size
    · obtain ⟨x, hx⟩ : ∃ x, (s[k].toNat : Int) = x := ⟨_, rfl⟩
      have hki : (k : Int) < (s.size : Int) := by omega
      have hx1 : 0 ≤ x ∧ x ≤ 255 := by have := s[k].toNat_lt; omega
      obtain ⟨hs1, hs2⟩ := dig_step hlt hx n
      have HS1 := Lib.hid hs1
      have HS2 := Lib.hid hs2
      clear hs1 hs2
      by_cases hlo : x < 48
      · have HR : Hid (readT s = none) := read_bad HN.out (by simp; omega) (HD.out.trans (HS1.out (.inl hlo)))
        have hlo' : decide (x < 48) = true := decide_eq_true hlo
        go_wp2
        go_ret2
        exact ⟨by rw [HR.out]; rfl, rfl⟩
      by_cases hhi : 57 < x
      · have HR : Hid (readT s = none) := read_bad HN.out (by simp; omega) (HD.out.trans (HS1.out (.inr hhi)))
        have hlo' : decide (x < 48) = false := decide_eq_false hlo
        have hhi' : decide (57 < x) = true := decide_eq_true hhi
        go_wp2
        go_ret2
        exact ⟨by rw [HR.out]; rfl, rfl⟩
      · have hlo' : decide (x < 48) = false := decide_eq_false hlo
        have hhi' : decide (57 < x) = false := decide_eq_false hhi
        have hm : (n : Int) * 10 ≤ 10000000000 := by omega
        have hm0 : 0 ≤ (n : Int) * 10 := by omega
        go_wp2
        go_roundw
        case rel =>
          refine ⟨k + 1, n * 10 + (x - 48).toNat, by omega, by omega, by go_num, ?_, ?_, HD.out.trans (HS2.out (by omega) (by omega)), by trivial⟩
          · have : ((n * 10 + (x - 48).toNat : Nat) : Int) = (n : Int) * 10 + (x - 48) := by omega
            rw [this]
          · rw [show k + 1 - 1 = (k - 1) + 1 by omega, Nat.pow_succ]; omega
        case measure => simp [intOf]; omega
    · obtain rfl : k = s.size := by omega
      have hki : ¬ (s.size : Int) < (s.size : Int) := by omega
      have HE : Hid (digN 0 (s.data.toList.drop 1) = some n) := HD.out.trans (by rw [show s.data.toList.drop s.size = [] from List.drop_of_length_le (by simp)]; rfl)
      obtain ⟨xi, hxi⟩ : ∃ x, (s[1].toNat : Int) = x := ⟨_, rfl⟩
      by_cases hz : xi = 48
      · have HR : Hid (readT s = none) := read_zero HN.out (by simp; omega) HE.out (first_zero (i := 1) (by omega) (hxi.trans hz)) (.inl HN.out)
        have hz' : (xi == 48) = true := by rw [hz]; rfl
        go_wp2
        go_ret2
        exact ⟨by rw [HR.out]; rfl, rfl⟩
      · have HR : Hid (readT s = some (-(n : Int))) := read_neg HN.out (by simp; omega) HE.out (first_not (by omega) (by rw [hxi]; exact hz))
        have hz' : (xi == 48) = false := by simpa using hz
        go_wp2
        go_ret2
        exact ⟨by rw [HR.out]; rfl, rfl⟩

set_option maxHeartbeats 4000000 in
theorem l1Read_pos (s : ByteArray) (hs : s.size ≤ 9223372036854775807) (h1 : 0 < s.size) (hn : negB s.data.toList = false) (w : World) : Calls Tryz.prog 81 #[.string s] w fun e w' => e = .returned (.tuple #[.int .i64 ((readT s).getD 0), .bool (readT s).isSome]) ∧ w = w' := by
  obtain ⟨hne1, hne2⟩ := empty_not (s := s) (by omega)
  obtain ⟨x0, hx0⟩ : ∃ x, (s[0].toNat : Int) = x := ⟨_, rfl⟩
  have h0b : (x0 == 45) = false := by rw [← hx0]; exact neg_first h1 hn
  have HN := Lib.hid hn
  clear hn
  by_cases hl : s.size < 1
  · omega
  by_cases hg : 9 < s.size
  · have HR : Hid (readT s = none) := read_many HN.out (by simp; omega)
    have hl1 : decide ((s.size : Int) - 0 < 1) = false := decide_eq_false (by omega)
    have hl2 : decide ((9 : Int) < (s.size : Int) - 0) = true := decide_eq_true (by omega)
    go_enter Tryz.func81, Tryz.ntmps81
    go_wp2
    go_ret2
    exact ⟨by rw [HR.out]; rfl, rfl⟩
  have hl1 : decide ((s.size : Int) - 0 < 1) = false := decide_eq_false (by omega)
  have hl2 : decide ((9 : Int) < (s.size : Int) - 0) = false := decide_eq_false (by omega)
  go_enter Tryz.func81, Tryz.ntmps81
  go_wp2
  go_loopw [6, 7] (fun a b wr => ∃ (k n : Nat), 0 ≤ k ∧ k ≤ s.size ∧ b = .int .i64 (k : Int) ∧ a = .int .i64 (n : Int) ∧ n < 10 ^ (k - 0) ∧ digN 0 (s.data.toList.drop 0) = digN n (s.data.toList.drop k) ∧ w = wr) (fun _ b _ => s.size - (intOf b).toNat)
  case atStart => exact ⟨0, 0, Nat.le_refl _, by omega, rfl, rfl, by simp, rfl, rfl⟩
  case round =>
    obtain ⟨k, n, hik, hk, rfl, rfl, hnn, hd, rfl⟩ := hrel
    have HD := Lib.hid hd
    clear hd
    have hp : 10 ^ (k - 0) ≤ 10 ^ 9 := Nat.pow_le_pow_right (by omega) (by omega)
    by_cases hlt : k < s.size
    · obtain ⟨x, hx⟩ : ∃ x, (s[k].toNat : Int) = x := ⟨_, rfl⟩
      have hki : (k : Int) < (s.size : Int) := by omega
      have hx1 : 0 ≤ x ∧ x ≤ 255 := by have := s[k].toNat_lt; omega
      obtain ⟨hs1, hs2⟩ := dig_step hlt hx n
      have HS1 := Lib.hid hs1
      have HS2 := Lib.hid hs2
      clear hs1 hs2
      by_cases hlo : x < 48
      · have HR : Hid (readT s = none) := read_bad HN.out (by simp; omega) (HD.out.trans (HS1.out (.inl hlo)))
        have hlo' : decide (x < 48) = true := decide_eq_true hlo
        go_wp2
        go_ret2
        exact ⟨by rw [HR.out]; rfl, rfl⟩
      by_cases hhi : 57 < x
      · have HR : Hid (readT s = none) := read_bad HN.out (by simp; omega) (HD.out.trans (HS1.out (.inr hhi)))
        have hlo' : decide (x < 48) = false := decide_eq_false hlo
        have hhi' : decide (57 < x) = true := decide_eq_true hhi
        go_wp2
        go_ret2
        exact ⟨by rw [HR.out]; rfl, rfl⟩
      · have hlo' : decide (x < 48) = false := decide_eq_false hlo
        have hhi' : decide (57 < x) = false := decide_eq_false hhi
        have hm : (n : Int) * 10 ≤ 10000000000 := by omega
        have hm0 : 0 ≤ (n : Int) * 10 := by omega
        go_wp2
        go_roundw
        case rel =>
          refine ⟨k + 1, n * 10 + (x - 48).toNat, by omega, by omega, by go_num, ?_, ?_, HD.out.trans (HS2.out (by omega) (by omega)), by trivial⟩
          · have : ((n * 10 + (x - 48).toNat : Nat) : Int) = (n : Int) * 10 + (x - 48) := by omega
            rw [this]
          · rw [show k + 1 - 0 = (k - 0) + 1 by omega, Nat.pow_succ]; omega
        case measure => simp [intOf]; omega
    · obtain rfl : k = s.size := by omega
      have hki : ¬ (s.size : Int) < (s.size : Int) := by omega
      have HE : Hid (digN 0 (s.data.toList.drop 0) = some n) := HD.out.trans (by rw [show s.data.toList.drop s.size = [] from List.drop_of_length_le (by simp)]; rfl)
      obtain ⟨xi, hxi⟩ : ∃ x, (s[0].toNat : Int) = x := ⟨_, rfl⟩
      by_cases hz : xi = 48
      · have hz' : (xi == 48) = true := by rw [hz]; rfl
        by_cases hone : 1 < s.size
        · have HR : Hid (readT s = none) := read_zero HN.out (by simp; omega) HE.out (first_zero (i := 0) (by omega) (hxi.trans hz)) (.inr (by simpa using hone))
          have hone' : decide ((1 : Int) < (s.size : Int)) = true := decide_eq_true (by omega)
          go_wp2
          go_ret2
          exact ⟨by rw [HR.out]; rfl, rfl⟩
        · have HR : Hid (readT s = some (n : Int)) := read_pos HN.out (by simp; omega) HE.out (.inr (by simp; omega))
          have hone' : decide ((1 : Int) < (s.size : Int)) = false := decide_eq_false (by omega)
          go_wp2
          go_ret2
          exact ⟨by rw [HR.out]; rfl, rfl⟩
      · have HR : Hid (readT s = some ((n : Int))) := read_pos HN.out (by simp; omega) HE.out (.inl (first_not (by omega) (by rw [hxi]; exact hz)))
        have hz' : (xi == 48) = false := by simpa using hz
        go_wp2
        go_ret2
        exact ⟨by rw [HR.out]; rfl, rfl⟩

theorem l1Read_any (s : ByteArray) (hs : s.size ≤ 9223372036854775807) (w : World) : Calls Tryz.prog 81 #[.string s] w fun e w' => e = .returned (.tuple #[.int .i64 ((readT s).getD 0), .bool (readT s).isSome]) ∧ w = w' := by
  by_cases h : s.size = 0
  · obtain rfl : s = ⟨#[]⟩ := by
      cases s with | mk d => congr 1; exact Array.eq_empty_of_size_eq_zero h
    go_enter Tryz.func81, Tryz.ntmps81
    go_wp2
    go_ret2
    exact ⟨rfl, rfl⟩
  · cases hn : negB s.data.toList with
    | true => exact l1Read_neg s hs (by omega) hn w
    | false => exact l1Read_pos s hs (by omega) hn w

end Go.Proofs.YtoffdlokndngeaaGreatDoor.Tx

/-
  What l1Int of the model answers: a number's text. Condition: the number is an int64.
-/
import Derived.Test.YtioogmeghmeelaaGreatDoorLists
namespace Go.Proofs.YtioogmeghmeelaaGreatDoor.Tx
open Go.RowKit

/-- Is it an int64? -/
def I64 (n : Int) : Prop := -9223372036854775808 ≤ n ∧ n ≤ 9223372036854775807
/-- The text of a number that is not below 0, and of any. -/
def decT (k : Nat) : ByteArray := if k = 0 then chr1 48 else digs k
def intT (n : Int) : ByteArray := if n < 0 then ⟨#[45]⟩ ++ decT n.natAbs else decT n.natAbs
theorem dec_step (k : Nat) : digs (k / 10) ++ chr1 (48 + (k % 10 : Nat) : Int) = decT k := by
  by_cases h : k = 0
  · subst h
    rw [digs_zero]
    exact ByteArray.empty_append
  · rw [decT, if_neg h]; exact (digs_pos (k := k) (by omega)).symm
theorem decT_size {k : Nat} (h : k ≤ 9223372036854775808) : 1 ≤ (decT k).size ∧ (decT k).size ≤ 19 := by
  unfold decT
  split
  · exact ⟨Nat.le_refl _, by rw [chr1_size]; omega⟩
  · rename_i h0
    refine ⟨by rw [digs_pos (by omega), ByteArray.size_append, chr1_size]; omega, digs_size 19 k (by omega)⟩
theorem empty_not {s : ByteArray} (h : s.size ≠ 0) : ¬ s.toList = [] ∧ s.toList.isEmpty = false := by
  have h1 : ¬ s.toList = [] := fun e => h (by
    rw [ByteArray.toList_eq] at e
    have := congrArg List.length e
    simpa using this)
  exact ⟨h1, by simpa using h1⟩

/-- 1 of the empty string, 0 of others. -/
def emptyN : Value → Nat
  | .string s => 1 - s.size
  | _ => 0
theorem emptyN_nil : emptyN (.string ⟨#[]⟩) = 1 := rfl
theorem emptyN_chr (x : Int) (s : ByteArray) : emptyN (.string (chr1 x ++ s)) = 0 := by
  show 1 - (chr1 x ++ s).size = 0
  rw [ByteArray.size_append, chr1_size]; omega

set_option maxHeartbeats 4000000 in
theorem l1Int_pos (k : Nat) (hk : k ≤ 9223372036854775807) (w : World) : Calls Tryz.prog 38 #[.int .i64 (k : Int)] w fun e w' => e = .returned (.string (decT k)) ∧ Below w.heap.size w w' := by
  have hcv := conv_one
  have hkn : ¬ (k : Int) < 0 := by omega
  go_enter Tryz.func38, Tryz.ntmps38
  go_wp2_with fail
  go_loopw [0, 3] (fun i o wr => ∃ (j : Nat) (s : ByteArray), j ≤ 9223372036854775807 ∧ i = .int .i64 (j : Int) ∧ o = .string s ∧ ((s = ⟨#[]⟩ ∧ j = k) ∨ (s.size ≠ 0 ∧ digs j ++ s = decT k)) ∧ Below w.heap.size w wr) (fun i o _ => (intOf i).natAbs + emptyN o)
  case atStart => exact ⟨k, ⟨#[]⟩, by omega, rfl, rfl, .inl ⟨rfl, rfl⟩, Below.refl _ _⟩
  case round =>
    obtain ⟨j, s, hj, rfl, rfl, hd, hB⟩ := hrel
    have HB := Lib.hid hB
    have HD0 := Lib.hid hd
    clear hB hd
    have hs : s.size ≤ 19 := by
      rcases HD0.out with ⟨rfl, _⟩ | ⟨_, h⟩
      · exact Nat.zero_le _
      · have := (decT_size (k := k) (by omega)).2
        rw [← h, ByteArray.size_append] at this
        omega
    have hno : ¬ 9223372036854775807 < (chr1 (48 + (j : Int) % 10)).size + s.size := by rw [chr1_size]; omega
    have hd0 : 0 ≤ (j : Int) % 10 ∧ (j : Int) % 10 ≤ 9 := by omega
    by_cases hs0 : s = ⟨#[]⟩
    · have HN : Hid (digs (j / 10) ++ (chr1 (48 + (j : Int) % 10) ++ s) = decT k) := by
        show _ = _
        rcases HD0.out with ⟨_, rfl⟩ | ⟨h0, _⟩
        · rw [hs0, show (⟨#[]⟩ : ByteArray) = ByteArray.empty from rfl, ByteArray.append_empty]; exact dec_step j
        · exact absurd (by rw [hs0]; rfl) h0
      subst hs0
      go_wp2
      go_roundw
      case rel => exact ⟨j / 10, chr1 (48 + (j : Int) % 10) ++ ⟨#[]⟩, by omega, by simp, rfl, .inr ⟨by rw [ByteArray.size_append, chr1_size]; omega, HN.out⟩, HB.out.alloc HB.out.size _⟩
      case measure => rw [emptyN_chr]; (first | rw [emptyN_nil] | skip); simp [intOf]; omega
    · have hsz : s.size ≠ 0 := by
        rcases HD0.out with ⟨h, _⟩ | ⟨h, _⟩
        · exact absurd h hs0
        · exact h
      obtain ⟨hne1, hne2⟩ := empty_not hsz
      by_cases hj0 : j = 0
      · have HE : Hid (s = decT k) := by
          show _ = _
          rcases HD0.out with ⟨h, _⟩ | ⟨_, h⟩
          · exact absurd h hs0
          · rw [hj0, digs_zero] at h; rw [← h]; exact ByteArray.empty_append.symm
        have hjz : ((j : Int) != 0) = false := by simp; omega
        go_wp2
        go_ret
        exact ⟨by rw [← HE.out]; rfl, HB.out⟩
      · have HN : Hid (digs (j / 10) ++ (chr1 (48 + (j : Int) % 10) ++ s) = decT k) := by
          show _ = _
          rcases HD0.out with ⟨h, _⟩ | ⟨_, h⟩
          · exact absurd h hs0
          · have e := digs_pos (k := j) (by omega)
            rw [← h, e, ByteArray.append_assoc]; rfl
        have hjn : ((j : Int) != 0) = true := by simp; omega
        go_wp2
        go_roundw
        case rel => exact ⟨j / 10, chr1 (48 + (j : Int) % 10) ++ s, by omega, by simp, rfl, .inr ⟨by rw [ByteArray.size_append, chr1_size]; omega, HN.out⟩, HB.out.alloc HB.out.size _⟩
        case measure => rw [emptyN_chr]; (first | rw [emptyN_nil] | skip); simp [intOf]; omega
set_option maxHeartbeats 4000000 in
theorem l1Int_neg (k : Nat) (hk0 : 0 < k) (hk : k ≤ 9223372036854775808) (w : World) : Calls Tryz.prog 38 #[.int .i64 (-(k : Int))] w fun e w' => e = .returned (.string (⟨#[45]⟩ ++ decT k)) ∧ Below w.heap.size w w' := by
  have hcv := conv_one
  have hkn : -(k : Int) < 0 := by omega
  go_enter Tryz.func38, Tryz.ntmps38
  go_wp2_with fail
  go_loopw [0, 3] (fun i o wr => ∃ (j : Nat) (s : ByteArray), j ≤ 9223372036854775808 ∧ i = .int .i64 (-(j : Int)) ∧ o = .string s ∧ ((s = ⟨#[]⟩ ∧ j = k) ∨ (s.size ≠ 0 ∧ digs j ++ s = decT k)) ∧ Below w.heap.size w wr) (fun i o _ => (intOf i).natAbs + emptyN o)
  case atStart => exact ⟨k, ⟨#[]⟩, by omega, rfl, rfl, .inl ⟨rfl, rfl⟩, Below.refl _ _⟩
  case round =>
    obtain ⟨j, s, hj, rfl, rfl, hd, hB⟩ := hrel
    have HB := Lib.hid hB
    have HD0 := Lib.hid hd
    clear hB hd
    have hs : s.size ≤ 19 := by
      rcases HD0.out with ⟨rfl, _⟩ | ⟨_, h⟩
      · exact Nat.zero_le _
      · have := (decT_size (k := k) (by omega)).2
        rw [← h, ByteArray.size_append] at this
        omega
    have hno : ¬ 9223372036854775807 < (chr1 (48 + (j : Int) % 10)).size + s.size := by rw [chr1_size]; omega
    have hd0 : 0 ≤ (j : Int) % 10 ∧ (j : Int) % 10 ≤ 9 := by omega
    have hq1 : (-(j : Int)).tmod 10 = -((j : Int) % 10) := by rw [Int.neg_tmod]; congr 1
    have hq2 : (-(j : Int)).tdiv 10 = -((j : Int) / 10) := by rw [Int.neg_tdiv]; congr 1
    by_cases hs0 : s = ⟨#[]⟩
    · have HN : Hid (digs (j / 10) ++ (chr1 (48 + (j : Int) % 10) ++ s) = decT k) := by
        show _ = _
        rcases HD0.out with ⟨_, rfl⟩ | ⟨h0, _⟩
        · rw [hs0, show (⟨#[]⟩ : ByteArray) = ByteArray.empty from rfl, ByteArray.append_empty]; exact dec_step j
        · exact absurd (by rw [hs0]; rfl) h0
      subst hs0
      go_wp2
      · go_roundw
        case rel => exact ⟨j / 10, chr1 (48 + (j : Int) % 10) ++ ⟨#[]⟩, by omega, by simp, rfl, .inr ⟨by rw [ByteArray.size_append, chr1_size]; omega, HN.out⟩, HB.out.alloc HB.out.size _⟩
        case measure => rw [emptyN_chr]; (first | rw [emptyN_nil] | skip); simp [intOf]; omega
      · have hz0 : (j : Int) % 10 = 0 := by omega
        rw [hz0] at HN
        rw [hz0]
        go_roundw
        case rel => exact ⟨j / 10, chr1 (48 + 0) ++ ⟨#[]⟩, by omega, by simp, rfl, .inr ⟨by rw [ByteArray.size_append, chr1_size]; omega, HN.out⟩, HB.out.alloc HB.out.size _⟩
        case measure => rw [emptyN_chr]; (first | rw [emptyN_nil] | skip); simp [intOf]; omega
    · have hsz : s.size ≠ 0 := by
        rcases HD0.out with ⟨h, _⟩ | ⟨h, _⟩
        · exact absurd h hs0
        · exact h
      obtain ⟨hne1, hne2⟩ := empty_not hsz
      by_cases hj0 : j = 0
      · have HE : Hid (s = decT k) := by
          show _ = _
          rcases HD0.out with ⟨h, _⟩ | ⟨_, h⟩
          · exact absurd h hs0
          · rw [hj0, digs_zero] at h; rw [← h]; exact ByteArray.empty_append.symm
        have hjz : ((-(j : Int)) != 0) = false := by simp; omega
        have hno2 : ¬ 9223372036854775807 < (⟨#[45]⟩ : ByteArray).size + s.size := by show ¬ 9223372036854775807 < 1 + s.size; omega
        go_wp2
        go_ret
        exact ⟨by rw [← HE.out]; rfl, HB.out⟩
      · have HN : Hid (digs (j / 10) ++ (chr1 (48 + (j : Int) % 10) ++ s) = decT k) := by
          show _ = _
          rcases HD0.out with ⟨h, _⟩ | ⟨_, h⟩
          · exact absurd h hs0
          · have e := digs_pos (k := j) (by omega)
            rw [← h, e, ByteArray.append_assoc]; rfl
        have hjn : ((-(j : Int)) != 0) = true := by simp; omega
        go_wp2
        · go_roundw
          case rel => exact ⟨j / 10, chr1 (48 + (j : Int) % 10) ++ s, by omega, by simp, rfl, .inr ⟨by rw [ByteArray.size_append, chr1_size]; omega, HN.out⟩, HB.out.alloc HB.out.size _⟩
          case measure => rw [emptyN_chr]; (first | rw [emptyN_nil] | skip); simp [intOf]; omega
        · have hz0 : (j : Int) % 10 = 0 := by omega
          rw [hz0] at HN
          rw [hz0]
          go_roundw
          case rel => exact ⟨j / 10, chr1 (48 + 0) ++ s, by omega, by simp, rfl, .inr ⟨by rw [ByteArray.size_append, chr1_size]; omega, HN.out⟩, HB.out.alloc HB.out.size _⟩
          case measure => rw [emptyN_chr]; (first | rw [emptyN_nil] | skip); simp [intOf]; omega
theorem l1Int_any (n : Int) (h : -9223372036854775808 ≤ n ∧ n ≤ 9223372036854775807) (w : World) : Calls Tryz.prog 38 #[.int .i64 n] w fun e w' => e = .returned (.string (intT n)) ∧ Below w.heap.size w w' := by
  by_cases hn : n < 0
  · obtain ⟨k, hk⟩ : ∃ k : Nat, n = -(k : Int) := ⟨n.natAbs, by omega⟩
    have e : intT n = ⟨#[45]⟩ ++ decT k := by rw [intT, if_pos hn]; congr 2; omega
    rw [e, hk]
    exact l1Int_neg k (by omega) (by omega) w
  · obtain ⟨k, hk⟩ : ∃ k : Nat, n = (k : Int) := ⟨n.natAbs, by omega⟩
    have e : intT n = decT k := by rw [intT, if_neg hn]; congr 1; omega
    rw [e, hk]
    exact l1Int_pos k (by omega) w
theorem intT_size (n : Int) (h : -9223372036854775808 ≤ n ∧ n ≤ 9223372036854775807) : (intT n).size ≤ 20 := by
  have := (decT_size (k := n.natAbs) (by omega)).2
  unfold intT
  split
  · rw [ByteArray.size_append]; show 1 + _ ≤ 20; omega
  · omega

/-- Words with a text between. -/
def tailsT (b : ByteArray) : List ByteArray → ByteArray
  | [] => ⟨#[]⟩
  | t :: l => b ++ (t ++ tailsT b l)
def joinT (b : ByteArray) : List ByteArray → ByteArray
  | [] => ⟨#[]⟩
  | s :: l => s ++ tailsT b l
theorem append_nil' (s : ByteArray) : s ++ (⟨#[]⟩ : ByteArray) = s := ByteArray.append_empty
theorem tailsT_snoc (b x : ByteArray) : ∀ l : List ByteArray, tailsT b (l ++ [x]) = tailsT b l ++ (b ++ x)
  | [] => by show b ++ (x ++ ⟨#[]⟩) = ⟨#[]⟩ ++ (b ++ x); rw [append_nil']; exact ByteArray.empty_append.symm
  | t :: l => by show b ++ (t ++ tailsT b (l ++ [x])) = b ++ (t ++ tailsT b l) ++ (b ++ x); rw [tailsT_snoc b x l]; simp only [ByteArray.append_assoc]
theorem joinT_snoc {b x : ByteArray} {l : List ByteArray} (h : l ≠ []) : joinT b (l ++ [x]) = joinT b l ++ b ++ x := by
  cases l with
  | nil => exact absurd rfl h
  | cons s l => show s ++ tailsT b (l ++ [x]) = s ++ tailsT b l ++ b ++ x; rw [tailsT_snoc]; simp only [ByteArray.append_assoc]
theorem joinT_one (b x : ByteArray) : joinT b [x] = x := append_nil' x
theorem tailsT_size (b : ByteArray) : ∀ l : List ByteArray, (tailsT b l).size = sumB l + l.length * b.size
  | [] => by show 0 = _; simp [sumB]
  | t :: l => by
    show (b ++ (t ++ tailsT b l)).size = _
    rw [ByteArray.size_append, ByteArray.size_append, tailsT_size b l, List.length_cons, Nat.succ_mul]
    have : sumB (t :: l) = t.size + sumB l := by simp [sumB]
    omega
theorem joinT_size (b : ByteArray) (l : List ByteArray) : (joinT b l).size ≤ sumB l + l.length * b.size := by
  cases l with
  | nil => exact Nat.zero_le _
  | cons s l =>
    show (s ++ tailsT b l).size ≤ _
    rw [ByteArray.size_append, tailsT_size, List.length_cons, Nat.succ_mul]
    have : sumB (s :: l) = s.size + sumB l := by simp [sumB]
    omega


end Go.Proofs.YtioogmeghmeelaaGreatDoor.Tx

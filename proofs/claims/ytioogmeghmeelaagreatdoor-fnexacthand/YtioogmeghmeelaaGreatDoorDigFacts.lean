/-
  Plain facts on a number's digits: what is read of what was written, what was written of what is read. Nothing of the program is named here. No conditions.
-/
import Derived.Test.YtioogmeghmeelaaGreatDoorNum
namespace Go.Proofs.YtioogmeghmeelaaGreatDoor.Tx

/-- The number that digits tell, behind n. -/
def digN : Nat → List UInt8 → Option Nat
  | n, [] => some n
  | n, x :: r => if 48 ≤ x.toNat ∧ x.toNat ≤ 57 then digN (n * 10 + (x.toNat - 48)) r else none
/-- A number's digits as bytes. -/
def digL (k : Nat) : List UInt8 := (digs k).data.toList
theorem digL_zero : digL 0 = [] := by rw [digL, digs_zero]
theorem bytes_app (a b : ByteArray) : (a ++ b).data.toList = a.data.toList ++ b.data.toList := by
  rw [ByteArray.data_append, Array.toList_append]
theorem digL_pos {k : Nat} (h : 0 < k) : digL k = digL (k / 10) ++ [UInt8.ofNat (48 + k % 10)] := by
  rw [digL, digs_pos h, bytes_app]
  rfl
theorem byte_dig {d : Nat} (h : d < 10) : (UInt8.ofNat (48 + d)).toNat = 48 + d := by
  rw [UInt8.toNat_ofNat']; omega
theorem digN_append : ∀ (a b : List UInt8) (n : Nat), digN n (a ++ b) = (digN n a).bind fun m => digN m b
  | [], _, _ => rfl
  | x :: r, b, n => by
    rw [List.cons_append, digN, digN]
    split
    · exact digN_append r b _
    · rfl
theorem digN_one (n : Nat) {d : Nat} (h : d < 10) : digN n [UInt8.ofNat (48 + d)] = some (n * 10 + d) := by
  rw [digN, if_pos (by rw [byte_dig h]; omega), byte_dig h, digN]
  congr 1
  omega
theorem digN_digL (k : Nat) : digN 0 (digL k) = some k := by
  induction k using Nat.strongRecOn with
  | _ k ih =>
    by_cases h : k = 0
    · subst h; rw [digL_zero]; rfl
    · rw [digL_pos (by omega), digN_append, ih (k / 10) (by omega), Option.bind_some, digN_one _ (Nat.mod_lt _ (by omega))]
      congr 1
      omega
theorem digL_mem (k : Nat) : ∀ x ∈ digL k, 48 ≤ x.toNat ∧ x.toNat ≤ 57 := by
  induction k using Nat.strongRecOn with
  | _ k ih =>
    intro x hx
    by_cases h : k = 0
    · subst h; rw [digL_zero] at hx; cases hx
    · rw [digL_pos (by omega)] at hx
      rcases List.mem_append.1 hx with hx | hx
      · exact ih (k / 10) (by omega) x hx
      · rw [List.mem_singleton.1 hx, byte_dig (Nat.mod_lt _ (by omega))]; have := Nat.mod_lt k (y := 10) (by omega); omega
theorem digL_head (k : Nat) (h : 0 < k) : ∃ x r, digL k = x :: r ∧ x.toNat ≠ 48 := by
  induction k using Nat.strongRecOn with
  | _ k ih =>
    rw [digL_pos h]
    by_cases h0 : k / 10 = 0
    · rw [h0, digL_zero]
      exact ⟨_, [], rfl, by rw [byte_dig (Nat.mod_lt _ (by omega))]; omega⟩
    · obtain ⟨x, r, e, hx⟩ := ih (k / 10) (by omega) (by omega)
      exact ⟨x, r ++ [UInt8.ofNat (48 + k % 10)], by rw [e]; rfl, hx⟩
/-- The bytes of a number's text. -/
def decL (k : Nat) : List UInt8 := (decT k).data.toList
theorem decL_zero : decL 0 = [48] := rfl
theorem decL_pos {k : Nat} (h : 0 < k) : decL k = digL k := by rw [decL, decT, if_neg (by omega)]; rfl
theorem decL_mem (k : Nat) : ∀ x ∈ decL k, 48 ≤ x.toNat ∧ x.toNat ≤ 57 := by
  by_cases h : k = 0
  · subst h; intro x hx; rw [decL_zero, List.mem_singleton] at hx; subst hx; decide
  · rw [decL_pos (by omega)]; exact digL_mem k
theorem decL_len {k : Nat} (h : k ≤ 999999999) : 1 ≤ (decL k).length ∧ (decL k).length ≤ 9 := by
  by_cases h0 : k = 0
  · subst h0; rw [decL_zero]; decide
  · have h1 := digs_size 9 k (by omega)
    obtain ⟨x, r, e, _⟩ := digL_head k (by omega)
    have h2 : (digL k).length = (digs k).size := by simp [digL]
    rw [decL_pos (by omega)]
    refine ⟨by rw [e]; simp, by omega⟩
theorem dig_back : ∀ (n : Nat) (l : List UInt8) (m : Nat), l.length = n → l ≠ [] → digN 0 l = some m → (l.length = 1 ∨ ∀ c, l.head? = some c → c.toNat ≠ 48) → l = decL m ∧ (1 < l.length → 0 < m)
  | 0, l, m, hl, hn, _, _ => absurd (List.eq_nil_of_length_eq_zero hl) hn
  | n + 1, l, m, hl, _, h, hz => by
    obtain ⟨l', d, rfl⟩ : ∃ l' d, l = l' ++ [d] := ⟨l.dropLast, l.getLast (by intro e; rw [e] at hl; simp at hl), (List.dropLast_concat_getLast _).symm⟩
    rw [digN_append] at h
    cases h1 : digN 0 l' with
    | none => rw [h1] at h; cases h
    | some q =>
      rw [h1, Option.bind_some] at h
      unfold digN at h
      split at h
      · rename_i hd
        simp only [digN, Option.some.injEq] at h
        have hdd : d = UInt8.ofNat (48 + (d.toNat - 48)) := by
          apply UInt8.toNat_inj.1
          rw [byte_dig (by omega)]; omega
        by_cases hl' : l' = []
        · subst hl'
          simp [digN] at h1
          subst h1
          have hm : m = d.toNat - 48 := by omega
          refine ⟨?_, by simp⟩
          by_cases hm0 : m = 0
          · subst hm0; rw [decL_zero, List.nil_append, hdd, ← hm]; rfl
          · rw [decL_pos (by omega), digL_pos (by omega), Nat.div_eq_of_lt (by omega), digL_zero, Nat.mod_eq_of_lt (by omega), List.nil_append, List.nil_append, hdd, ← hm]
        · have hll : l'.length = n := by simpa using hl
          have hz' : l'.length = 1 ∨ ∀ c, l'.head? = some c → c.toNat ≠ 48 := by
            rcases hz with hz | hz
            · simp at hz; exact absurd hz hl'
            · refine .inr fun c hc => hz c ?_
              rw [List.head?_append, hc]; rfl
          obtain ⟨e1, e2⟩ := dig_back n l' q hll hl' h1 hz'
          have hq : 0 < q := by
            by_cases h2 : 1 < l'.length
            · exact e2 h2
            · obtain ⟨c, rfl⟩ : ∃ c, l' = [c] := List.length_eq_one_iff.1 (by have := List.length_pos_iff.2 hl'; omega)
              have hc : c.toNat ≠ 48 := by
                rcases hz with hz | hz
                · simp at hz
                · exact hz c rfl
              unfold digN at h1
              split at h1
              · simp [digN] at h1; omega
              · cases h1
          refine ⟨?_, fun _ => by omega⟩
          rw [decL_pos (by omega), digL_pos (by omega)]
          have e3 : m / 10 = q := by omega
          have e4 : m % 10 = d.toNat - 48 := by omega
          rw [e3, e4, ← hdd, ← decL_pos hq, ← e1]
      · cases h
theorem dig_lt : ∀ (l : List UInt8) (n m : Nat), digN n l = some m → m < (n + 1) * 10 ^ l.length
  | [], n, m, h => by simp [digN] at h; simp; omega
  | x :: r, n, m, h => by
    unfold digN at h
    split at h
    · have h1 := dig_lt r _ m h
      rw [List.length_cons, Nat.pow_succ]
      have h2 : (n * 10 + (x.toNat - 48) + 1) * 10 ^ r.length ≤ ((n + 1) * 10) * 10 ^ r.length := Nat.mul_le_mul_right _ (by omega)
      have h3 : (n + 1) * (10 ^ r.length * 10) = ((n + 1) * 10) * 10 ^ r.length := by rw [Nat.mul_comm (10 ^ r.length) 10, Nat.mul_assoc]
      omega
    · cases h

end Go.Proofs.YtioogmeghmeelaaGreatDoor.Tx

/-
  Plain facts on the digits that a text begins with, and on the text of a Bind. Nothing of the program is named here. No conditions.
-/
import Derived.Test.YtpegjdknlkpkbaaDigFacts
import Derived.Test.YtpegjdknlkpkbaaHello3
namespace Go.Proofs.Ytpegjdknlkpkbaa.Tx

/-- Is it a digit? -/
def dgB (x : UInt8) : Bool := decide (48 ≤ x.toNat) && decide (x.toNat ≤ 57)
/-- How many digits a text begins with. -/
def cntD : List UInt8 → Nat
  | [] => 0
  | x :: r => if dgB x then cntD r + 1 else 0
theorem cnt_le : ∀ l : List UInt8, cntD l ≤ l.length
  | [] => Nat.le_refl _
  | x :: r => by
    unfold cntD
    split
    · have := cnt_le r; simp; omega
    · exact Nat.zero_le _
theorem cnt_in : ∀ (l : List UInt8) (k : Nat), k < cntD l → ∃ x, l[k]? = some x ∧ dgB x = true
  | [], _, h => absurd h (by simp [cntD])
  | x :: r, k, h => by
    unfold cntD at h
    split at h
    · rename_i hx
      cases k with
      | zero => exact ⟨x, rfl, hx⟩
      | succ k => exact cnt_in r k (by omega)
    · omega
theorem cnt_end : ∀ (l : List UInt8) (x : UInt8), l[cntD l]? = some x → dgB x = false
  | [], x, h => by simp [cntD] at h
  | y :: r, x, h => by
    unfold cntD at h
    split at h
    · exact cnt_end r x (by simpa using h)
    · rename_i hy
      simp at h
      subst h
      simpa using hy
theorem cnt_app : ∀ (a b : List UInt8), (∀ x ∈ a, dgB x = true) → (∀ x, b.head? = some x → dgB x = false) → cntD (a ++ b) = a.length
  | [], [], _, _ => rfl
  | [], y :: r, _, h => by
    rw [List.nil_append, cntD, if_neg (by rw [h y rfl]; simp)]; rfl
  | x :: a, b, h, h' => by
    rw [List.cons_append, cntD, if_pos (h x (List.mem_cons_self ..)), cnt_app a b (fun y hy => h y (List.mem_cons_of_mem _ hy)) h']; rfl
/-- The digit at a place, -1 where there is none. -/
def dgI (s : ByteArray) (k : Nat) : Int := match s.data.toList[k]? with
  | some x => if dgB x then (x.toNat : Int) - 48 else -1
  | none => -1
theorem dgI_none {s : ByteArray} {k : Nat} (h : s.size ≤ k) : dgI s k = -1 := by
  have : s.data.toList[k]? = none := by rw [List.getElem?_eq_none_iff]; simpa using h
  rw [dgI, this]
theorem dgI_some {s : ByteArray} {k : Nat} (h : k < s.size) : dgI s k = if dgB s[k] then (s[k].toNat : Int) - 48 else -1 := by
  have hl : k < s.data.toList.length := by simpa using h
  have : s.data.toList[k]? = some s[k] := by rw [List.getElem?_eq_getElem hl]; rfl
  rw [dgI, this]
theorem dgI_range (s : ByteArray) (k : Nat) : -1 ≤ dgI s k ∧ dgI s k ≤ 9 := by
  unfold dgI
  split
  · rename_i x _
    split
    · rename_i hx
      simp [dgB] at hx
      omega
    · omega
  · omega
theorem dgI_stop {s : ByteArray} {k : Nat} (hk : k ≤ cntD s.data.toList) (h : dgI s k = -1) : k = cntD s.data.toList := by
  by_cases hlt : k < cntD s.data.toList
  · obtain ⟨x, hx, hd⟩ := cnt_in _ _ hlt
    rw [dgI, hx] at h
    dsimp only at h
    rw [if_pos hd] at h
    simp [dgB] at hd
    omega
  · omega
theorem dgI_go {s : ByteArray} {k : Nat} (hk : k ≤ cntD s.data.toList) (h : dgI s k ≠ -1) : k < cntD s.data.toList := by
  by_cases hlt : k < cntD s.data.toList
  · exact hlt
  · obtain rfl : k = cntD s.data.toList := by omega
    exfalso
    apply h
    unfold dgI
    split
    · rename_i x hx
      rw [if_neg (by rw [cnt_end _ _ hx]; simp)]
    · rfl
/-- One digit more. -/
theorem digN_more {l : List UInt8} {k n : Nat} {x : UInt8} (hx : l[k]? = some x) (hd : dgB x = true) (h : digN 0 (l.take k) = some n) : digN 0 (l.take (k + 1)) = some (n * 10 + (x.toNat - 48)) := by
  rw [List.take_add_one, hx, Option.toList_some, digN_append, h, Option.bind_some, digN, if_pos (by simp [dgB] at hd; exact hd), digN]
theorem digN_next {s : ByteArray} {k n : Nat} (hk : k < cntD s.data.toList) (h : digN 0 (s.data.toList.take k) = some n) : 0 ≤ dgI s k ∧ dgI s k ≤ 9 ∧ digN 0 (s.data.toList.take (k + 1)) = some (n * 10 + (dgI s k).toNat) := by
  obtain ⟨x, hx, hd⟩ := cnt_in _ _ hk
  have e : dgI s k = (x.toNat : Int) - 48 := by rw [dgI, hx]; dsimp only; rw [if_pos hd]
  have hd' := hd
  simp [dgB] at hd'
  refine ⟨by omega, by omega, ?_⟩
  rw [digN_more hx hd h, e]
  congr 2
  omega
/-- Does a number stand ahead: which, and what is left? -/
structure NumA (s : ByteArray) (n : Nat) (r : ByteArray) : Prop where
  one : 1 ≤ cntD s.data.toList
  nine : cntD s.data.toList ≤ 9
  val : digN 0 (s.data.toList.take (cntD s.data.toList)) = some n
  head : cntD s.data.toList = 1 ∨ ∀ c, s.data.toList.head? = some c → c.toNat ≠ 48
  left : r.data.toList = s.data.toList.drop (cntD s.data.toList)
/-- No number stands ahead. -/
def NoNum (s : ByteArray) : Prop := cntD s.data.toList = 0 ∨ 9 < cntD s.data.toList ∨ (1 < cntD s.data.toList ∧ ∃ c, s.data.toList.head? = some c ∧ c.toNat = 48)
theorem dgB_of {x : UInt8} (h : 48 ≤ x.toNat ∧ x.toNat ≤ 57) : dgB x = true := by simp [dgB]; exact h
theorem NumA.text {s : ByteArray} {n : Nat} {r : ByteArray} (h : NumA s n r) : s.data.toList = decL n ++ r.data.toList := by
  have hl : (s.data.toList.take (cntD s.data.toList)).length = cntD s.data.toList := by rw [List.length_take]; exact Nat.min_eq_left (cnt_le _)
  have h1 := (dig_back _ (s.data.toList.take (cntD s.data.toList)) n rfl (by intro e; rw [e] at hl; have := h.one; simp at hl; omega) h.val (by
    rw [hl]
    refine h.head.imp id fun hh c hc => hh c ?_
    have h0 : 0 < cntD s.data.toList := h.one
    rw [List.head?_take, if_neg (by omega)] at hc
    exact hc)).1
  rw [h.left, ← h1, List.take_append_drop]
theorem num_lead {s : ByteArray} {n : Nat} {b : List UInt8} (h : s.data.toList = decL n ++ (45 :: b)) : cntD s.data.toList = (decL n).length := by
  rw [h]
  exact cnt_app _ _ (fun x hx => dgB_of (decL_mem n x hx)) (fun x hx => by simp at hx; subst hx; decide)
theorem NumA.of {s : ByteArray} {n : Nat} {r : ByteArray} (h : NumA s n r) {m : Nat} {b : List UInt8} (e : s.data.toList = decL m ++ (45 :: b)) : n = m ∧ r.data.toList = 45 :: b := by
  have hc := num_lead e
  have h1 := h.text
  have hv := h.val
  rw [hc, e, List.take_left' rfl] at hv
  refine ⟨?_, ?_⟩
  · have hm : digN 0 (decL m) = some m := by
      by_cases h0 : m = 0
      · subst h0; rfl
      · rw [decL_pos (by omega)]; exact digN_digL m
    rw [hm] at hv
    exact (Option.some.inj hv).symm
  · rw [h.left, hc, e, List.drop_left' rfl]
theorem NoNum.not {s : ByteArray} (h : NoNum s) {m : Nat} (hm : m ≤ 999999999) (b : List UInt8) : s.data.toList ≠ decL m ++ (45 :: b) := by
  intro e
  have hc := num_lead e
  have hl := decL_len hm
  rcases h with h | h | ⟨h, c, hh, hc0⟩
  · omega
  · omega
  · rw [hc] at h
    have h0 : 0 < m := by
      rcases Nat.eq_zero_or_pos m with h1 | h1
      · subst h1; rw [decL_zero] at h; simp at h
      · exact h1
    obtain ⟨x, r, ex, hx⟩ := digL_head m h0
    rw [e, decL_pos h0, ex] at hh
    simp at hh
    subst hh
    exact hx hc0
/-- The text of a Bind as bytes. -/
theorem bind_bytes {g : Int} (hg : 0 ≤ g) (ea : Bool) : (bindT g ea).data.toList = decL g.toNat ++ [45, if ea then 49 else 48] := by
  have e1 : (intT g).data.toList = decL g.toNat := by
    rw [intT, if_neg (by omega), decL]; congr 2; congr 1; omega
  have e2 : (intT (bitI ea)).data.toList = [if ea then 49 else 48] := by
    cases ea with
    | false => rfl
    | true =>
      show (decT 1).data.toList = [49]
      rw [decT, if_neg (by omega), digs_pos (by omega), show 1 / 10 = 0 from rfl, digs_zero]
      rfl
  rw [bindT, bytes_app, bytes_app, e1, e2, List.append_assoc]
  rfl
theorem toList_data (s : ByteArray) : s.toList = s.data.toList := ByteArray.toList_eq s
theorem same_iff {s t : ByteArray} : sameT s t = true ↔ s.data.toList = t.data.toList := by
  rw [sameT, beq_iff_eq, toList_data, toList_data]
/-- What is read where a number stands ahead is what was written where that number and the flag are the ones asked for. -/
theorem read_bind {s : ByteArray} {n : Nat} {r : ByteArray} (h : NumA s n r) {g : Int} (hg : 0 ≤ g) (ea : Bool) : sameT s (bindT g ea) = ((n : Int) == g && r.toList == [45, if ea then 49 else 48]) := by
  rw [Bool.eq_iff_iff, same_iff, bind_bytes hg, Bool.and_eq_true, beq_iff_eq, beq_iff_eq, toList_data]
  constructor
  · intro e
    obtain ⟨h1, h2⟩ := h.of e
    exact ⟨by omega, h2⟩
  · rintro ⟨h1, h2⟩
    rw [h.text, h2, ← h1]
    rfl
theorem no_bind {s : ByteArray} (h : NoNum s) {g : Int} (hg : 0 ≤ g ∧ g ≤ 100000) (ea : Bool) : sameT s (bindT g ea) = false := by
  rw [Bool.eq_false_iff]
  intro e
  have e1 := same_iff.1 e
  rw [bind_bytes hg.1] at e1
  exact h.not (by omega) _ e1

end Go.Proofs.Ytpegjdknlkpkbaa.Tx

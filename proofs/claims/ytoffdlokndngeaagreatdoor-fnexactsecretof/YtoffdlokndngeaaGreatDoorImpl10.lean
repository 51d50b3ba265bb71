/-
  Plain facts on the digits that a text begins with, and on the text of a Bind. Nothing of the program is named here. No conditions.
  A scope in which the run jumps, forth and back, to several labels: what holds at each label's jumps, and a measure that every pass from a label lowers at every jump. From the library's law for one label. No conditions.
  What digitAt and numberAhead of the program answer: the digit at a place, and the number that a text begins with. No conditions.
  What bindNo, words, wordsIn and Binds of the program answer. No conditions.
  What TokenIn and SecretOf of the program answer. Condition: the listed variables of the library hold what its text lays in them.
-/
import Derived.Test.YtoffdlokndngeaaGreatDoorDigFacts
import Derived.Test.YtoffdlokndngeaaGreatDoorHello3
import Derived.ScopeJumps
import Derived.WalkMore
import Derived.Test.YtoffdlokndngeaaGreatDoorRegionO
import Derived.OwnWalk
import Derived.Test.YtoffdlokndngeaaGreatDoorImpl9a
import Derived.Test.YtoffdlokndngeaaGreatDoorPick0
import Derived.Test.YtoffdlokndngeaaGreatDoorImpl6f
import Derived.Test.YtoffdlokndngeaaGreatDoorImpl6g
import Derived.Test.YtoffdlokndngeaaGreatDoorRegionR
namespace Go.Proofs.YtoffdlokndngeaaGreatDoor.Tx

/-- Is it a digit? -/
def dgB (x : UInt8) : Bool := decide (48 ≤ x.toNat) && decide (x.toNat ≤ 57)
/-- How many digits a text begins with. -/
def cntD : List UInt8 → Nat
  | [] => 0
  | x :: r => if dgB x then cntD r + 1 else 0
theorem cnt_le : ∀ l : List UInt8, cntD l ≤ l.length
  | [] => Nat.le_refl _
  | x :: r => by
    unfold cntD
    split
    · have := cnt_le r; simp; omega
    · exact Nat.zero_le _
theorem cnt_in : ∀ (l : List UInt8) (k : Nat), k < cntD l → ∃ x, l[k]? = some x ∧ dgB x = true
  | [], _, h => absurd h (by simp [cntD])
  | x :: r, k, h => by
    unfold cntD at h
    split at h
    · rename_i hx
      cases k with
      | zero => exact ⟨x, rfl, hx⟩
      | succ k => exact cnt_in r k (by omega)
    · omega
theorem cnt_end : ∀ (l : List UInt8) (x : UInt8), l[cntD l]? = some x → dgB x = false
  | [], x, h => by simp [cntD] at h
  | y :: r, x, h => by
    unfold cntD at h
    split at h
    · exact cnt_end r x (by simpa using h)
    · rename_i hy
      simp at h
      subst h
      simpa using hy
theorem cnt_app : ∀ (a b : List UInt8), (∀ x ∈ a, dgB x = true) → (∀ x, b.head? = some x → dgB x = false) → cntD (a ++ b) = a.length
  | [], [], _, _ => rfl
  | [], y :: r, _, h => by
    rw [List.nil_append, cntD, if_neg (by rw [h y rfl]; simp)]; rfl
  | x :: a, b, h, h' => by
    rw [List.cons_append, cntD, if_pos (h x (List.mem_cons_self ..)), cnt_app a b (fun y hy => h y (List.mem_cons_of_mem _ hy)) h']; rfl
/-- The digit at a place, -1 where there is none. -/
def dgI (s : ByteArray) (k : Nat) : Int := match s.data.toList[k]? with
  | some x => if dgB x then (x.toNat : Int) - 48 else -1
  | none => -1
theorem dgI_none {s : ByteArray} {k : Nat} (h : s.size ≤ k) : dgI s k = -1 := by
  have : s.data.toList[k]? = none := by rw [List.getElem?_eq_none_iff]; simpa using h
  rw [dgI, this]
theorem dgI_some {s : ByteArray} {k : Nat} (h : k < s.size) : dgI s k = if dgB s[k] then (s[k].toNat : Int) - 48 else -1 := by
  have hl : k < s.data.toList.length := by simpa using h
  have : s.data.toList[k]? = some s[k] := by rw [List.getElem?_eq_getElem hl]; rfl
  rw [dgI, this]
theorem dgI_range (s : ByteArray) (k : Nat) : -1 ≤ dgI s k ∧ dgI s k ≤ 9 := by
  unfold dgI
  split
  · rename_i x _
    split
    · rename_i hx
      simp [dgB] at hx
      omega
    · omega
  · omega
theorem dgI_stop {s : ByteArray} {k : Nat} (hk : k ≤ cntD s.data.toList) (h : dgI s k = -1) : k = cntD s.data.toList := by
  by_cases hlt : k < cntD s.data.toList
  · obtain ⟨x, hx, hd⟩ := cnt_in _ _ hlt
    rw [dgI, hx] at h
    dsimp only at h
    rw [if_pos hd] at h
    simp [dgB] at hd
    omega
  · omega
theorem dgI_go {s : ByteArray} {k : Nat} (hk : k ≤ cntD s.data.toList) (h : dgI s k ≠ -1) : k < cntD s.data.toList := by
  by_cases hlt : k < cntD s.data.toList
  · exact hlt
  · obtain rfl : k = cntD s.data.toList := by omega
    exfalso
    apply h
    unfold dgI
    split
    · rename_i x hx
      rw [if_neg (by rw [cnt_end _ _ hx]; simp)]
    · rfl
/-- One digit more. -/
theorem digN_more {l : List UInt8} {k n : Nat} {x : UInt8} (hx : l[k]? = some x) (hd : dgB x = true) (h : digN 0 (l.take k) = some n) : digN 0 (l.take (k + 1)) = some (n * 10 + (x.toNat - 48)) := by
  rw [List.take_add_one, hx, Option.toList_some, digN_append, h, Option.bind_some, digN, if_pos (by simp [dgB] at hd; exact hd), digN]
theorem digN_next {s : ByteArray} {k n : Nat} (hk : k < cntD s.data.toList) (h : digN 0 (s.data.toList.take k) = some n) : 0 ≤ dgI s k ∧ dgI s k ≤ 9 ∧ digN 0 (s.data.toList.take (k + 1)) = some (n * 10 + (dgI s k).toNat) := by
  obtain ⟨x, hx, hd⟩ := cnt_in _ _ hk
  have e : dgI s k = (x.toNat : Int) - 48 := by rw [dgI, hx]; dsimp only; rw [if_pos hd]
  have hd' := hd
  simp [dgB] at hd'
  refine ⟨by omega, by omega, ?_⟩
  rw [digN_more hx hd h, e]
  congr 2
  omega
/-- Does a number stand ahead: which, and what is left? -/
structure NumA (s : ByteArray) (n : Nat) (r : ByteArray) : Prop where
  one : 1 ≤ cntD s.data.toList
  nine : cntD s.data.toList ≤ 9
  val : digN 0 (s.data.toList.take (cntD s.data.toList)) = some n
  head : cntD s.data.toList = 1 ∨ ∀ c, s.data.toList.head? = some c → c.toNat ≠ 48
  left : r.data.toList = s.data.toList.drop (cntD s.data.toList)
/-- No number stands ahead. -/
def NoNum (s : ByteArray) : Prop := cntD s.data.toList = 0 ∨ 9 < cntD s.data.toList ∨ (1 < cntD s.data.toList ∧ ∃ c, s.data.toList.head? = some c ∧ c.toNat = 48)
theorem dgB_of {x : UInt8} (h : 48 ≤ x.toNat ∧ x.toNat ≤ 57) : dgB x = true := by simp [dgB]; exact h
theorem NumA.text {s : ByteArray} {n : Nat} {r : ByteArray} (h : NumA s n r) : s.data.toList = decL n ++ r.data.toList := by
  have hl : (s.data.toList.take (cntD s.data.toList)).length = cntD s.data.toList := by rw [List.length_take]; exact Nat.min_eq_left (cnt_le _)
  have h1 := (dig_back _ (s.data.toList.take (cntD s.data.toList)) n rfl (by intro e; rw [e] at hl; have := h.one; simp at hl; omega) h.val (by
    rw [hl]
    refine h.head.imp id fun hh c hc => hh c ?_
    have h0 : 0 < cntD s.data.toList := h.one
    rw [List.head?_take, if_neg (by omega)] at hc
    exact hc)).1
  rw [h.left, ← h1, List.take_append_drop]
theorem num_lead {s : ByteArray} {n : Nat} {b : List UInt8} (h : s.data.toList = decL n ++ (45 :: b)) : cntD s.data.toList = (decL n).length := by
  rw [h]
  exact cnt_app _ _ (fun x hx => dgB_of (decL_mem n x hx)) (fun x hx => by simp at hx; subst hx; decide)
theorem NumA.of {s : ByteArray} {n : Nat} {r : ByteArray} (h : NumA s n r) {m : Nat} {b : List UInt8} (e : s.data.toList = decL m ++ (45 :: b)) : n = m ∧ r.data.toList = 45 :: b := by
  have hc := num_lead e
  have h1 := h.text
  have hv := h.val
  rw [hc, e, List.take_left' rfl] at hv
  refine ⟨?_, ?_⟩
  · have hm : digN 0 (decL m) = some m := by
      by_cases h0 : m = 0
      · subst h0; rfl
      · rw [decL_pos (by omega)]; exact digN_digL m
    rw [hm] at hv
    exact (Option.some.inj hv).symm
  · rw [h.left, hc, e, List.drop_left' rfl]
theorem NoNum.not {s : ByteArray} (h : NoNum s) {m : Nat} (hm : m ≤ 999999999) (b : List UInt8) : s.data.toList ≠ decL m ++ (45 :: b) := by
  intro e
  have hc := num_lead e
  have hl := decL_len hm
  rcases h with h | h | ⟨h, c, hh, hc0⟩
  · omega
  · omega
  · rw [hc] at h
    have h0 : 0 < m := by
      rcases Nat.eq_zero_or_pos m with h1 | h1
      · subst h1; rw [decL_zero] at h; simp at h
      · exact h1
    obtain ⟨x, r, ex, hx⟩ := digL_head m h0
    rw [e, decL_pos h0, ex] at hh
    simp at hh
    subst hh
    exact hx hc0
/-- The text of a Bind as bytes. -/
theorem bind_bytes {g : Int} (hg : 0 ≤ g) (ea : Bool) : (bindT g ea).data.toList = decL g.toNat ++ [45, if ea then 49 else 48] := by
  have e1 : (intT g).data.toList = decL g.toNat := by
    rw [intT, if_neg (by omega), decL]; congr 2; congr 1; omega
  have e2 : (intT (bitI ea)).data.toList = [if ea then 49 else 48] := by
    cases ea with
    | false => rfl
    | true =>
      show (decT 1).data.toList = [49]
      rw [decT, if_neg (by omega), digs_pos (by omega), show 1 / 10 = 0 from rfl, digs_zero]
      rfl
  rw [bindT, bytes_app, bytes_app, e1, e2, List.append_assoc]
  rfl
theorem toList_data (s : ByteArray) : s.toList = s.data.toList := ByteArray.toList_eq s
theorem same_iff {s t : ByteArray} : sameT s t = true ↔ s.data.toList = t.data.toList := by
  rw [sameT, beq_iff_eq, toList_data, toList_data]
/-- What is read where a number stands ahead is what was written where that number and the flag are the ones asked for. -/
theorem read_bind {s : ByteArray} {n : Nat} {r : ByteArray} (h : NumA s n r) {g : Int} (hg : 0 ≤ g) (ea : Bool) : sameT s (bindT g ea) = ((n : Int) == g && r.toList == [45, if ea then 49 else 48]) := by
  rw [Bool.eq_iff_iff, same_iff, bind_bytes hg, Bool.and_eq_true, beq_iff_eq, beq_iff_eq, toList_data]
  constructor
  · intro e
    obtain ⟨h1, h2⟩ := h.of e
    exact ⟨by omega, h2⟩
  · rintro ⟨h1, h2⟩
    rw [h.text, h2, ← h1]
    rfl
theorem no_bind {s : ByteArray} (h : NoNum s) {g : Int} (hg : 0 ≤ g ∧ g ≤ 100000) (ea : Bool) : sameT s (bindT g ea) = false := by
  rw [Bool.eq_false_iff]
  intro e
  have e1 := same_iff.1 e
  rw [bind_bytes hg.1] at e1
  exact h.not (by omega) _ e1

end Go.Proofs.YtoffdlokndngeaaGreatDoor.Tx
namespace Go.Proofs.YtoffdlokndngeaaGreatDoor.Tx
open Go

/-- As Q; by a goto to label l: J l. -/
def jumps (J : Nat → Act → World → Prop) (Q : Exit → Act → World → Prop) : Exit → Act → World → Prop
  | .goto l, a, w => J l a w
  | e, a, w => Q e a w
theorem jumps_ret {J : Nat → Act → World → Prop} {Q : Exit → Act → World → Prop} {a : Act} {w : World} : jumps J Q .ret a w = Q .ret a w := rfl

section
variable {P : Program} {a : Act} {w : World} {Q : Exit → Act → World → Prop}

theorem wp_scope_labels {c : Code} (J : Nat → Act → World → Prop) (m : Nat → Act → World → Nat)
    (first : c.wp P (jumps J Q) a w)
    (pass : ∀ l a w, J l a w → ∃ rest, findLabel c l = some rest ∧ rest.wp P (jumps (fun l' a' w' => J l' a' w' ∧ m l' a' w' < m l a w) Q) a w) : (Code.scope c).wp P Q a w := by
  intro b k cs
  have hg : ∀ l rest, findLabel c l = some rest → gotoIn l (.inScope c :: k) = some (.code rest :: .inScope c :: k) := fun l rest hf => by simp [gotoIn, hf]
  have key : ∀ n l a w, m l a w = n → J l a w → ∃ rest, findLabel c l = some rest ∧ ∃ e a' w', Q e a' w' ∧ Arrives P (lone (b.at a (.code rest :: .inScope c :: k)) cs w) b k cs e a' w' := by
    intro n
    induction n using Nat.strongRecOn with
    | _ n ih =>
      intro l a w hn hJ
      obtain ⟨rest, hf, hp⟩ := pass l a w hJ
      refine ⟨rest, hf, ?_⟩
      obtain ⟨e, a₁, w₁, hq, harr⟩ := hp b (.inScope c :: k) cs
      cases e with
      | normal => exact ⟨.normal, a₁, w₁, hq, Steps.trans harr (.one step_inScope)⟩
      | exit id => exact ⟨.exit id, a₁, w₁, hq, fun k' hk => harr k' (by simp [exitTo, hk])⟩
      | goto l' =>
        obtain ⟨hJ', hlt⟩ := hq
        obtain ⟨rest', hf', e₂, a₂, w₂, hq₂, harr₂⟩ := ih _ (by omega) l' a₁ w₁ rfl hJ'
        exact ⟨e₂, a₂, w₂, hq₂, .of_steps (harr _ (hg l' rest' hf')) harr₂⟩
      | ret => exact ⟨_, a₁, w₁, hq, harr⟩
      | panic ch => exact ⟨_, a₁, w₁, hq, harr⟩
      | outgrown => exact ⟨_, a₁, w₁, hq, harr⟩
  obtain ⟨e, a₁, w₁, hq, harr⟩ := first b (.inScope c :: k) cs
  cases e with
  | normal => exact ⟨.normal, a₁, w₁, hq, .head step_scope (Steps.trans harr (.one step_inScope))⟩
  | exit id => exact ⟨.exit id, a₁, w₁, hq, fun k' hk => .head step_scope (harr k' (by simp [exitTo, hk]))⟩
  | goto l' =>
    obtain ⟨rest', hf', e₂, a₂, w₂, hq₂, harr₂⟩ := key _ l' a₁ w₁ rfl hq
    exact ⟨e₂, a₂, w₂, hq₂, .of_steps (.head step_scope (harr _ (hg l' rest' hf'))) harr₂⟩
  | ret => exact ⟨_, a₁, w₁, hq, .of_steps (.one step_scope) harr⟩
  | panic ch => exact ⟨_, a₁, w₁, hq, .of_steps (.one step_scope) harr⟩
  | outgrown => exact ⟨_, a₁, w₁, hq, .of_steps (.one step_scope) harr⟩
end

end Go.Proofs.YtoffdlokndngeaaGreatDoor.Tx
namespace Go.Proofs.YtoffdlokndngeaaGreatDoor.Tx
open Go.RowKit

set_option maxHeartbeats 2000000 in
theorem digitAt_any (s : ByteArray) (k : Nat) (w : World) : Calls Tryz.prog 127 #[.string s, .int .i64 (k : Int)] w fun e w' => e = .returned (.int .i64 (dgI s k)) ∧ w = w' := by
  by_cases hlt : k < s.size
  · have HR := Lib.hid (dgI_some hlt)
    obtain ⟨y, hy⟩ : ∃ y, s[k] = y := ⟨_, rfl⟩
    have hx : (s[k].toNat : Int) = (y.toNat : Int) := by rw [hy]
    rw [hy] at HR
    obtain ⟨x, hyx⟩ : ∃ x, (y.toNat : Int) = x := ⟨_, rfl⟩
    rw [hyx] at hx HR
    have hx1 : 0 ≤ x ∧ x ≤ 255 := by have := y.toNat_lt; omega
    have hki : ¬ (s.size : Int) ≤ (k : Int) := by omega
    by_cases hlo : x < 48
    · have HE : Hid (dgI s k = -1) := by show _ = _; rw [HR.out, if_neg]; simp [dgB]; omega
      go_enter Tryz.func127, Tryz.ntmps127
      go_wp2
      go_ret
      exact ⟨by rw [HE.out]; rfl, rfl⟩
    · by_cases hhi : 57 < x
      · have HE : Hid (dgI s k = -1) := by show _ = _; rw [HR.out, if_neg]; simp [dgB]; omega
        go_enter Tryz.func127, Tryz.ntmps127
        go_wp2
        go_ret
        exact ⟨by rw [HE.out]; rfl, rfl⟩
      · have HE : Hid (dgI s k = x - 48) := by show _ = _; rw [HR.out, if_pos]; simp [dgB]; omega
        go_enter Tryz.func127, Tryz.ntmps127
        go_wp2
        go_ret
        exact ⟨by rw [HE.out]; rfl, rfl⟩
  · have HE : Hid (dgI s k = -1) := dgI_none (by omega)
    have hki : (s.size : Int) ≤ (k : Int) := by omega
    go_enter Tryz.func127, Tryz.ntmps127
    go_wp2
    go_ret
    exact ⟨by rw [HE.out]; rfl, rfl⟩

/-- The frame: the text, n and at; the other slots hold whatever. -/
def Fr (s : ByteArray) (n k : Int) (a : Act) : Prop := ∃ (u1 u7 u8 u9 u10 u11 u12 u13 u14 u15 u16 u17 u18 u19 u20 u21 u22 u23 u24 u25 u26 u27 u28 u29 u30 u31 u32 u33 u34 u35 u36 u37 : Value), a = { tmps := #[.string s, u1, .int .i64 0, .string ⟨#[]⟩, .bool false, .int .i64 n, .int .i64 k, u7, u8, u9, u10, u11, u12, u13, u14, u15, u16, u17, u18, u19, u20, u21, u22, u23, u24, u25, u26, u27, u28, u29, u30, u31, u32, u33, u34, u35, u36, u37], defers := [] }
theorem Fr.to {s : ByteArray} {n n' k k' : Int} {a : Act} (h : Fr s n k a) (hn : n = n') (hk : k = k') : Fr s n' k' a := by subst hn; subst hk; exact h
/-- What holds where the run jumps to a label. -/
def JWrong (s : ByteArray) (w : World) (a : Act) (w' : World) : Prop := NoNum s ∧ (∃ n k : Int, Fr s n k a) ∧ w = w'
def JNought (s : ByteArray) (w : World) (a : Act) (w' : World) : Prop := dgI s 0 = 0 ∧ Fr s 0 0 a ∧ w = w'
def JDigits (s : ByteArray) (w : World) (a : Act) (w' : World) : Prop := ∃ k n : Nat, k < 9 ∧ k < cntD s.data.toList ∧ n < 10 ^ k ∧ digN 0 (s.data.toList.take k) = some n ∧ (∀ c, s.data.toList.head? = some c → c.toNat ≠ 48) ∧ Fr s (n : Int) (k : Int) a ∧ w = w'
def JEnd (s : ByteArray) (w : World) (a : Act) (w' : World) : Prop := ∃ k n : Nat, k = cntD s.data.toList ∧ 1 ≤ k ∧ k ≤ 9 ∧ digN 0 (s.data.toList.take k) = some n ∧ (k = 1 ∨ ∀ c, s.data.toList.head? = some c → c.toNat ≠ 48) ∧ Fr s (n : Int) (k : Int) a ∧ w = w'
def JJ (s : ByteArray) (w : World) : Nat → Act → World → Prop
  | 0 => JWrong s w
  | 1 => JNought s w
  | 2 => JDigits s w
  | 3 => JEnd s w
  | _ => fun _ _ => False
def mu : Nat → Act → World → Nat
  | 0 => fun _ _ => 0
  | 3 => fun _ _ => 1
  | 1 => fun _ _ => 2
  | _ => fun a _ => 3 + (9 - (intOf (a.tmps.getD 6 undef)).toNat)
def NumRead (s : ByteArray) (w : World) (e : Ending) (w' : World) : Prop := ((∃ (n : Nat) (r : ByteArray), e = .returned (.tuple #[.int .i64 (n : Int), .string r, .bool true]) ∧ NumA s n r) ∨ (e = .returned (.tuple #[.int .i64 0, .string ⟨#[]⟩, .bool false]) ∧ NoNum s)) ∧ Below w.heap.size w w'

theorem not_zero {s : ByteArray} (h : 0 < cntD s.data.toList) (hx : dgI s 0 ≠ 0) : ∀ c, s.data.toList.head? = some c → c.toNat ≠ 48 := by
  intro c hc e
  obtain ⟨x, h0, hd⟩ := cnt_in _ _ h
  rw [List.head?_eq_getElem?, h0] at hc
  cases hc
  apply hx
  rw [dgI, h0]
  dsimp only
  rw [if_pos hd]
  omega
theorem is_zero {s : ByteArray} (h : 0 < cntD s.data.toList) (hx : dgI s 0 = 0) : ∃ c, s.data.toList.head? = some c ∧ c.toNat = 48 := by
  obtain ⟨x, h0, hd⟩ := cnt_in _ _ h
  refine ⟨x, by rw [List.head?_eq_getElem?, h0], ?_⟩
  rw [dgI, h0] at hx
  dsimp only at hx
  rw [if_pos hd] at hx
  omega
theorem ext_all (s : ByteArray) (k : Nat) : (s.extract k s.size).data.toList = s.data.toList.drop k := by
  rw [ByteArray.data_extract, Array.toList_extract]
  show List.take (s.size - k) (List.drop k s.data.toList) = _
  rw [List.take_of_length_le (by simp)]
set_option maxHeartbeats 8000000 in
theorem numberAhead_any (s : ByteArray) (w : World) : Calls Tryz.prog 108 #[.string s] w (NumRead s w) := by
  obtain ⟨x, hx⟩ : ∃ x, dgI s 0 = x := ⟨_, rfl⟩
  obtain ⟨y, hy⟩ : ∃ y, dgI s 1 = y := ⟨_, rfl⟩
  have cX : ∀ w' : World, Calls Tryz.prog 127 #[.string s, .int .i64 0] w' fun e w'' => e = .returned (.int .i64 x) ∧ w' = w'' := fun w' => by have := digitAt_any s 0 w'; rw [hx] at this; exact this
  have cY : ∀ w' : World, Calls Tryz.prog 127 #[.string s, .int .i64 1] w' fun e w'' => e = .returned (.int .i64 y) ∧ w' = w'' := fun w' => by have := digitAt_any s 1 w'; rw [hy] at this; exact this
  go_enter Tryz.func108, Tryz.ntmps108
  go_wp2
  refine wp_scope_labels (JJ s w) mu ?_ ?_
  · go_wp2_with fail
    refine (cX _).mono ?_
    rintro e w1 ⟨rfl, rfl⟩
    by_cases hx1 : x = -1
    · have hxb : (x == -1) = true := by rw [hx1]; rfl
      have HE := Lib.hid (dgI_stop (Nat.zero_le _) (hx.trans hx1))
      go_wp2
      go_step3
      exact ⟨.inl HE.out.symm, ⟨_, _, ⟨_, _, _, _, _, _, _, _, _, _, _, _, _, _, _, _, _, _, _, _, _, _, _, _, _, _, _, _, _, _, _, _, rfl⟩⟩, rfl⟩
    · have hxb : (x == -1) = false := by simpa using hx1
      by_cases hx0 : x = 0
      · have hxc : (x == 0) = true := by rw [hx0]; rfl
        have HE := Lib.hid (hx.trans hx0)
        go_wp2
        go_step3
        exact ⟨HE.out, ⟨_, _, _, _, _, _, _, _, _, _, _, _, _, _, _, _, _, _, _, _, _, _, _, _, _, _, _, _, _, _, _, _, rfl⟩, rfl⟩
      · have hxc : (x == 0) = false := by simpa using hx0
        have HC : Hid (0 < cntD s.data.toList) := dgI_go (Nat.zero_le _) (by rw [hx]; exact hx1)
        obtain ⟨hd0, hd9, hdv⟩ := digN_next (s := s) (k := 0) (n := 0) HC.out rfl
        rw [hx] at hd0 hd9 hdv
        have HV : Hid (digN 0 (s.data.toList.take 1) = some x.toNat) := by show _ = _; rw [hdv]; congr 1; omega
        have HH : Hid (∀ c, s.data.toList.head? = some c → c.toNat ≠ 48) := not_zero HC.out (by rw [hx]; exact hx0)
        have HY := Lib.hid hy
        have HN1 : Hid (x = ((x.toNat : Nat) : Int)) := by show _ = _; omega
        have HK1 : Hid ((1 : Int) = ((1 : Nat) : Int)) := rfl
        clear hdv hx hy
        go_wp2_with fail
        go_step3
        go_wp2_with fail
        refine (cX _).mono ?_
        rintro e w1 ⟨rfl, rfl⟩
        go_wp2_with fail
        refine (cY _).mono ?_
        rintro e w1 ⟨rfl, rfl⟩
        by_cases hy1 : y = -1
        · have hyb : (y == -1) = true := by rw [hy1]; rfl
          have HE := Lib.hid (dgI_stop (k := 1) HC.out (HY.out.trans hy1))
          go_wp2
          go_step3
          exact ⟨1, x.toNat, HE.out, by omega, by omega, HV.out, .inr HH.out, (Fr.to ⟨_, _, _, _, _, _, _, _, _, _, _, _, _, _, _, _, _, _, _, _, _, _, _, _, _, _, _, _, _, _, _, _, rfl⟩ HN1.out HK1.out), rfl⟩
        · have hyb : (y == -1) = false := by simpa using hy1
          have HE := Lib.hid (dgI_go (k := 1) HC.out (by rw [HY.out]; exact hy1))
          go_wp2
          go_step3
          exact ⟨1, x.toNat, by omega, HE.out, by omega, HV.out, HH.out, (Fr.to ⟨_, _, _, _, _, _, _, _, _, _, _, _, _, _, _, _, _, _, _, _, _, _, _, _, _, _, _, _, _, _, _, _, rfl⟩ HN1.out HK1.out), rfl⟩
  · rintro l a w' hJ
    match l, hJ with
    | 0, hJ =>
      obtain ⟨hn, ⟨n, k, u1, u7, u8, u9, u10, u11, u12, u13, u14, u15, u16, u17, u18, u19, u20, u21, u22, u23, u24, u25, u26, u27, u28, u29, u30, u31, u32, u33, u34, u35, u36, u37, rfl⟩, rfl⟩ := hJ
      refine ⟨_, rfl, ?_⟩
      have HN := Lib.hid hn
      clear hn hx hy cX cY
      go_wp2
      rw [jumps_ret]
      go_ret3
      exact ⟨.inr ⟨rfl, HN.out⟩, Below.refl _ _⟩
    | 1, hJ =>
      obtain ⟨h0, ⟨u1, u7, u8, u9, u10, u11, u12, u13, u14, u15, u16, u17, u18, u19, u20, u21, u22, u23, u24, u25, u26, u27, u28, u29, u30, u31, u32, u33, u34, u35, u36, u37, rfl⟩, rfl⟩ := hJ
      refine ⟨_, rfl, ?_⟩
      have HC : Hid (0 < cntD s.data.toList) := dgI_go (Nat.zero_le _) (by rw [h0]; omega)
      have HZ : Hid (∃ c, s.data.toList.head? = some c ∧ c.toNat = 48) := is_zero HC.out h0
      obtain ⟨_, _, hdv⟩ := digN_next (s := s) (k := 0) (n := 0) HC.out rfl
      have HV : Hid (digN 0 (s.data.toList.take 1) = some 0) := by show _ = _; rw [hdv, h0]; rfl
      have HY := Lib.hid hy
      clear hdv hx hy cX h0
      go_wp2_with fail
      refine (cY _).mono ?_
      rintro e w1 ⟨rfl, rfl⟩
      by_cases hy1 : y = -1
      · have hyb : (y == -1) = true := by rw [hy1]; rfl
        have HE := Lib.hid (dgI_stop (k := 1) HC.out (HY.out.trans hy1))
        go_wp2
        go_step3
        have hl1 : 1 ≤ s.size := by have h1 := cnt_le s.data.toList; have h2 := HE.out; rw [Array.length_toList] at h1; exact Nat.le_trans (Nat.le_of_eq h2) h1
        have HN : Hid (NumA s 0 (s.extract 1 s.size)) := ⟨by rw [← HE.out]; exact Nat.le_refl _, by rw [← HE.out]; omega, by rw [← HE.out]; exact HV.out, .inl HE.out.symm, by rw [← HE.out]; exact ext_all s 1⟩
        clear HE HV HC HZ HY cY hyb hy1
        have hks : (1 : Int) ≤ (s.size : Int) := by have := hl1; omega
        have hk0 : (0 : Int) ≤ (1 : Int) := by omega
        go_wp2
        refine wp_region_own (W := w) [] (fun _ => True) stays_true trivial [0, 0, 0, 0, 0, 0, 0] (by kernel_rfl) (by kernel_rfl) (by kernel_rfl) ?_
        refine wpO_quiet 7 rfl (by kernel_rfl) ?_
        simp only [List.take, List.drop]
        repeat (go_big_quiet_step (fail))
        refine wpQuiet_nil ?_
        refine wpO_nil ?_
        rintro w1 b1 _
        have B1 := Lib.hid (kept_below b1)
        clear b1
        go_wp2
        rw [jumps_ret]
        go_ret3
        exact ⟨.inl ⟨0, _, rfl, HN.out⟩, B1.out⟩
      · have hyb : (y == -1) = false := by simpa using hy1
        have HE := Lib.hid (dgI_go (k := 1) HC.out (by rw [HY.out]; exact hy1))
        go_wp2
        go_step3
        exact ⟨⟨.inr (.inr ⟨HE.out, HZ.out⟩), ⟨_, _, ⟨_, _, _, _, _, _, _, _, _, _, _, _, _, _, _, _, _, _, _, _, _, _, _, _, _, _, _, _, _, _, _, _, rfl⟩⟩, rfl⟩, by simp [mu]⟩
    | 2, hJ =>
      obtain ⟨k, n, hk9, hkc, hn, hv, hh, ⟨u1, u7, u8, u9, u10, u11, u12, u13, u14, u15, u16, u17, u18, u19, u20, u21, u22, u23, u24, u25, u26, u27, u28, u29, u30, u31, u32, u33, u34, u35, u36, u37, rfl⟩, rfl⟩ := hJ
      refine ⟨_, rfl, ?_⟩
      clear hx hy cX cY
      clear x y
      obtain ⟨hd0, hd9, hdv⟩ := digN_next hkc hv
      obtain ⟨x, hx⟩ : ∃ x, dgI s k = x := ⟨_, rfl⟩
      obtain ⟨y, hy⟩ : ∃ y, dgI s (k + 1) = y := ⟨_, rfl⟩
      rw [hx] at hd0 hd9 hdv
      have cX : ∀ w' : World, Calls Tryz.prog 127 #[.string s, .int .i64 (k : Int)] w' fun e w'' => e = .returned (.int .i64 x) ∧ w' = w'' := fun w' => by have := digitAt_any s k w'; rw [hx] at this; exact this
      have cY : ∀ w' : World, Calls Tryz.prog 127 #[.string s, .int .i64 ((k : Int) + 1)] w' fun e w'' => e = .returned (.int .i64 y) ∧ w' = w'' := fun w' => by have := digitAt_any s (k + 1) w'; rw [hy, show ((k + 1 : Nat) : Int) = (k : Int) + 1 by omega] at this; exact this
      have HC : Hid (k < cntD s.data.toList) := hkc
      have HV := Lib.hid hdv
      have HH := Lib.hid hh
      have HY := Lib.hid hy
      have HN1 : Hid ((n : Int) * 10 + x = ((n * 10 + x.toNat : Nat) : Int)) := by show _ = _; omega
      have HK1 : Hid ((k : Int) + 1 = ((k + 1 : Nat) : Int)) := by show _ = _; omega
      have hpow : 10 ^ k ≤ 10 ^ 8 := Nat.pow_le_pow_right (by omega) (by omega)
      have hm : (n : Int) * 10 ≤ 1000000000 := by omega
      have hm0 : 0 ≤ (n : Int) * 10 := by omega
      clear hdv hx hy hkc hv hh
      go_wp2_with fail
      refine (cX _).mono ?_
      rintro e w1 ⟨rfl, rfl⟩
      go_wp2_with fail
      refine (cY _).mono ?_
      rintro e w1 ⟨rfl, rfl⟩
      by_cases hy1 : y = -1
      · have hyb : (y == -1) = true := by rw [hy1]; rfl
        have HE := Lib.hid (dgI_stop (k := k + 1) HC.out (HY.out.trans hy1))
        go_wp2
        go_step3
        exact ⟨⟨k + 1, n * 10 + x.toNat, HE.out, by omega, by omega, HV.out, .inr HH.out, (Fr.to ⟨_, _, _, _, _, _, _, _, _, _, _, _, _, _, _, _, _, _, _, _, _, _, _, _, _, _, _, _, _, _, _, _, rfl⟩ HN1.out HK1.out), rfl⟩, by simp [mu, intOf]; omega⟩
      · have hyb : (y == -1) = false := by simpa using hy1
        have HE := Lib.hid (dgI_go (k := k + 1) HC.out (by rw [HY.out]; exact hy1))
        by_cases hk8 : k + 1 < 9
        · have hkb : (k : Int) + 1 < 9 := by omega
          go_wp2
          go_step3
          exact ⟨⟨k + 1, n * 10 + x.toNat, hk8, HE.out, by rw [Nat.pow_succ]; omega, HV.out, HH.out, (Fr.to ⟨_, _, _, _, _, _, _, _, _, _, _, _, _, _, _, _, _, _, _, _, _, _, _, _, _, _, _, _, _, _, _, _, rfl⟩ HN1.out HK1.out), rfl⟩, by simp [mu, intOf]; omega⟩
        · have hkb : ¬ (k : Int) + 1 < 9 := by omega
          go_wp2
          go_step3
          exact ⟨⟨.inr (.inl (by have := HE.out; omega)), ⟨_, _, ⟨_, _, _, _, _, _, _, _, _, _, _, _, _, _, _, _, _, _, _, _, _, _, _, _, _, _, _, _, _, _, _, _, rfl⟩⟩, rfl⟩, by simp [mu, intOf]; omega⟩
    | 3, hJ =>
      obtain ⟨k, n, hkc, h1, h9, hv, hh, ⟨u1, u7, u8, u9, u10, u11, u12, u13, u14, u15, u16, u17, u18, u19, u20, u21, u22, u23, u24, u25, u26, u27, u28, u29, u30, u31, u32, u33, u34, u35, u36, u37, rfl⟩, rfl⟩ := hJ
      refine ⟨_, rfl, ?_⟩
      have hkl : k ≤ s.size := by have := cnt_le s.data.toList; simp at this; omega
      have HN : Hid (NumA s n (s.extract k s.size)) := by
        show NumA _ _ _
        rw [hkc] at h1 h9 hv hh ⊢
        exact ⟨h1, h9, hv, hh, ext_all s _⟩
      clear hkc h1 h9 hv hh hx hy cX cY
      clear x y
      have hks : ((k : Nat) : Int) ≤ (s.size : Int) := by have := hkl; omega
      have hk0 : (0 : Int) ≤ ((k : Nat) : Int) := by omega
      go_wp2
      refine wp_region_own (W := w) [] (fun _ => True) stays_true trivial [0, 0, 0, 0, 0, 0, 0] (by kernel_rfl) (by kernel_rfl) (by kernel_rfl) ?_
      refine wpO_quiet 7 rfl (by kernel_rfl) ?_
      simp only [List.take, List.drop]
      repeat (go_big_quiet_step (fail))
      refine wpQuiet_nil ?_
      refine wpO_nil ?_
      rintro w1 b1 _
      have B1 := Lib.hid (kept_below b1)
      clear b1
      go_wp2
      rw [jumps_ret]
      go_ret3
      exact ⟨.inl ⟨n, _, rfl, HN.out⟩, B1.out⟩
    | _ + 4, hJ => exact hJ.elim

end Go.Proofs.YtoffdlokndngeaaGreatDoor.Tx
namespace Go.Proofs.YtoffdlokndngeaaGreatDoor.Tx
open Go.RowKit

theorem bindNo_any (q : HelV) (w : World) : Calls Tryz.prog 74 #[q.val] w fun e w' => e = .returned (.int .i64 (bitI q.ag)) ∧ Below w.heap.size w w' := by
  obtain ⟨d, ag, ⟨⟨xu, xs, xh, xa⟩, xn, xt, xp⟩, g, ⟨⟨yu, ys, yh, ya⟩, yn, yt, yp⟩, ea⟩ := q
  have HV : Hid (HelV.val ⟨d, ag, ⟨⟨xu, xs, xh, xa⟩, xn, xt, xp⟩, g, ⟨⟨yu, ys, yh, ya⟩, yn, yt, yp⟩, ea⟩ = .agg #[.int .i64 d, .bool ag, .int .i64 xu, .int .i64 xs, .int .i64 xh, .int .i64 xa, .int .i64 xn, .string xt, .bool xp, .int .i64 g, .int .i64 yu, .int .i64 ys, .int .i64 yh, .int .i64 ya, .int .i64 yn, .string yt, .bool yp, .bool ea]) := rfl
  rw [HV.out]
  obtain ⟨W, hW⟩ : ∃ W, w.alloc (.cells #[.int .i64 d, .bool ag, .int .i64 xu, .int .i64 xs, .int .i64 xh, .int .i64 xa, .int .i64 xn, .string xt, .bool xp, .int .i64 g, .int .i64 yu, .int .i64 ys, .int .i64 yh, .int .i64 ya, .int .i64 yn, .string yt, .bool yp, .bool ea] 32) = W := ⟨_, rfl⟩
  have K : Hid (Below w.heap.size w W) := by rw [← hW]; exact (Below.refl _ w).alloc (Nat.le_refl _) _
  have c1 : W.cell? ⟨w.heap.size, 1, none⟩ = some (.bool ag) := blk_cell (show W.heap[w.heap.size]? = some (.cells #[.int .i64 d, .bool ag, .int .i64 xu, .int .i64 xs, .int .i64 xh, .int .i64 xa, .int .i64 xn, .string xt, .bool xp, .int .i64 g, .int .i64 yu, .int .i64 ys, .int .i64 yh, .int .i64 ya, .int .i64 yn, .string yt, .bool yp, .bool ea] 32) by rw [← hW]; exact heap1 w _) 1
  cases ag with
  | false =>
    go_enter Tryz.func74, Tryz.ntmps74
    go_wp2
    go_ret
    exact ⟨rfl, K.out⟩
  | true =>
    go_enter Tryz.func74, Tryz.ntmps74
    go_wp2
    go_ret
    exact ⟨rfl, K.out⟩

theorem words_any (q : HelV) (w : World) : Calls Tryz.prog 76 #[q.val] w fun e w' => e = .returned (.agg #[.int .i64 q.g, .bool q.ea]) ∧ Below w.heap.size w w' := by
  obtain ⟨d, ag, ⟨⟨xu, xs, xh, xa⟩, xn, xt, xp⟩, g, ⟨⟨yu, ys, yh, ya⟩, yn, yt, yp⟩, ea⟩ := q
  have HV : Hid (HelV.val ⟨d, ag, ⟨⟨xu, xs, xh, xa⟩, xn, xt, xp⟩, g, ⟨⟨yu, ys, yh, ya⟩, yn, yt, yp⟩, ea⟩ = .agg #[.int .i64 d, .bool ag, .int .i64 xu, .int .i64 xs, .int .i64 xh, .int .i64 xa, .int .i64 xn, .string xt, .bool xp, .int .i64 g, .int .i64 yu, .int .i64 ys, .int .i64 yh, .int .i64 ya, .int .i64 yn, .string yt, .bool yp, .bool ea]) := rfl
  rw [HV.out]
  obtain ⟨W, hW⟩ : ∃ W, (w.alloc (.cells #[.int .i64 d, .bool ag, .int .i64 xu, .int .i64 xs, .int .i64 xh, .int .i64 xa, .int .i64 xn, .string xt, .bool xp, .int .i64 g, .int .i64 yu, .int .i64 ys, .int .i64 yh, .int .i64 ya, .int .i64 yn, .string yt, .bool yp, .bool ea] 32)).alloc (.cells #[.int .i64 0, .bool false] 105) = W := ⟨_, rfl⟩
  have K : Hid (Below w.heap.size w W) := by rw [← hW]; exact ((Below.refl _ w).alloc (Nat.le_refl _) _).alloc (by simp) _
  have G : Hid (W.heap[w.heap.size]? = some (.cells #[.int .i64 d, .bool ag, .int .i64 xu, .int .i64 xs, .int .i64 xh, .int .i64 xa, .int .i64 xn, .string xt, .bool xp, .int .i64 g, .int .i64 yu, .int .i64 ys, .int .i64 yh, .int .i64 ya, .int .i64 yn, .string yt, .bool yp, .bool ea] 32)) := by rw [← hW]; exact heap2a w _ _
  have R : Hid (W.heap[w.heap.size + 1]? = some (.cells #[.int .i64 0, .bool false] 105)) := by rw [← hW]; exact heap2b w _ _
  have c3 : W.cell? ⟨w.heap.size, 9, none⟩ = some (.int .i64 g) := blk_cell G.out 9
  have c5 : W.cell? ⟨w.heap.size, 17, none⟩ = some (.bool ea) := blk_cell G.out 17
  go_enter Tryz.func76, Tryz.ntmps76
  go_wp2_with (refine wpList_store_row rfl 105 _ _ rfl (w.heap.size + 1) #[.int .i64 g, .bool ea] rfl rfl 105 _ R.out (by kernel_rfl) rfl (by simp [Value.oneCell']) ?_)
  exact row_ret (cs := #[.int .i64 g, .bool ea]) rfl rfl (setRow_heap _ _ _ _ _ _ R.out) Tryz.underlying105 rfl (by kernel_rfl) rfl ⟨rfl, below_setRow K.out (by omega) _⟩

/-- What wordsIn answers: it reads just what was written. -/
def WordsOut (s : ByteArray) (g' : Int) (e' ok : Bool) : Prop := ∀ (g : Int) (ea : Bool), 0 ≤ g ∧ g ≤ 100000 → sameT s (bindT g ea) = (ok && (g' == g && e' == ea))
theorem words_none {s : ByteArray} (h : NoNum s) : WordsOut s 0 false false := fun g ea hg => by rw [no_bind h hg, Bool.false_and]
theorem words_left {s r : ByteArray} {n : Nat} (h : NumA s n r) (h0 : ¬ r.data.toList = [45, 48]) (h1 : ¬ r.data.toList = [45, 49]) : WordsOut s 0 false false := fun g ea hg => by
  rw [read_bind h hg.1, toList_data, Bool.false_and, Bool.and_eq_false_iff]
  right
  rw [beq_eq_false_iff_ne]
  cases ea
  · exact h0
  · exact h1
theorem words_zero {s r : ByteArray} {n : Nat} (h : NumA s n r) (h0 : r.data.toList = [45, 48]) : WordsOut s n false true := fun g ea hg => by
  rw [read_bind h hg.1, toList_data, h0, Bool.true_and]
  cases ea <;> simp
theorem words_one {s r : ByteArray} {n : Nat} (h : NumA s n r) (h0 : r.data.toList = [45, 49]) : WordsOut s n true true := fun g ea hg => by
  rw [read_bind h hg.1, toList_data, h0, Bool.true_and]
  cases ea <;> simp

set_option maxHeartbeats 2000000 in
theorem wordsIn_any (s : ByteArray) (w : World) : Calls Tryz.prog 75 #[.string s] w fun e w' => ∃ (g : Int) (b ok : Bool), (e = .returned (.tuple #[.agg #[.int .i64 g, .bool b], .bool ok]) ∧ Below w.heap.size w w') ∧ WordsOut s g b ok := by
  obtain ⟨W, hW⟩ : ∃ W, w.alloc (.cells #[.int .i64 0, .bool false] 105) = W := ⟨_, rfl⟩
  have K : Hid (Below w.heap.size w W) := by rw [← hW]; exact (Below.refl _ w).alloc (Nat.le_refl _) _
  have R : Hid (W.heap[w.heap.size]? = some (.cells #[.int .i64 0, .bool false] 105)) := by rw [← hW]; exact heap1 w _
  go_enter Tryz.func75, Tryz.ntmps75
  go_wp2_with fail
  clear hW
  refine (numberAhead_any s _).mono ?_
  rintro e w1 ⟨⟨n, r, rfl, hn⟩ | ⟨rfl, hn⟩, hb⟩
  · have R1 := Lib.hid (blk_on hb R.out)
    have K1 := Lib.hid (K.out.trans (hb.mono K.out.size))
    have HN := Lib.hid hn
    clear hb R K hn
    by_cases h0 : r.data.toList = [45, 48]
    · have hr0 : r.toList = [45, 48] := by rw [toList_data, h0]
      have HE := Lib.hid (words_zero HN.out h0)
      clear h0
      go_wp2_with (refine wpList_store_row rfl 105 _ _ rfl (w.heap.size) #[.int .i64 (n : Int), .bool false] rfl rfl 105 _ R1.out (by kernel_rfl) rfl (by simp [Value.oneCell']) ?_)
      exact row_ret2 (r := w.heap.size) (cs := #[.int .i64 (n : Int), .bool false]) rfl rfl rfl (setRow_heap _ _ _ _ _ _ R1.out) Tryz.underlying105 rfl (by kernel_rfl) rfl ⟨_, _, _, ⟨rfl, below_setRow K1.out (Nat.le_refl _) _⟩, HE.out⟩
    · have hr0 : ¬ r.toList = [45, 48] := by rw [toList_data]; exact h0
      have hs0 : (r.toList == [45, 48]) = false := by rw [beq_eq_false_iff_ne]; exact hr0
      by_cases h1 : r.data.toList = [45, 49]
      · have hr1 : r.toList = [45, 49] := by rw [toList_data, h1]
        have HE := Lib.hid (words_one HN.out h1)
        clear h0 h1
        go_wp2_with (refine wpList_store_row rfl 105 _ _ rfl (w.heap.size) #[.int .i64 (n : Int), .bool true] rfl rfl 105 _ R1.out (by kernel_rfl) rfl (by simp [Value.oneCell']) ?_)
        exact row_ret2 (r := w.heap.size) (cs := #[.int .i64 (n : Int), .bool true]) rfl rfl rfl (setRow_heap _ _ _ _ _ _ R1.out) Tryz.underlying105 rfl (by kernel_rfl) rfl ⟨_, _, _, ⟨rfl, below_setRow K1.out (Nat.le_refl _) _⟩, HE.out⟩
      · have hr1 : ¬ r.toList = [45, 49] := by rw [toList_data]; exact h1
        have hs1 : (r.toList == [45, 49]) = false := by rw [beq_eq_false_iff_ne]; exact hr1
        have HE := Lib.hid (words_left HN.out h0 h1)
        clear h0 h1
        go_wp2_with (refine wpList_store_row rfl 105 _ _ rfl (w.heap.size) #[.int .i64 0, .bool false] rfl rfl 105 _ R1.out (by kernel_rfl) rfl (by simp [Value.oneCell']) ?_)
        exact row_ret2 (r := w.heap.size) (cs := #[.int .i64 0, .bool false]) rfl rfl rfl (setRow_heap _ _ _ _ _ _ R1.out) Tryz.underlying105 rfl (by kernel_rfl) rfl ⟨_, _, _, ⟨rfl, below_setRow K1.out (Nat.le_refl _) _⟩, HE.out⟩
  · have R1 := Lib.hid (blk_on hb R.out)
    have K1 := Lib.hid (K.out.trans (hb.mono K.out.size))
    have HE := Lib.hid (words_none hn)
    clear hb R K hn
    go_wp2_with (refine wpList_store_row rfl 105 _ _ rfl (w.heap.size) #[.int .i64 0, .bool false] rfl rfl 105 _ R1.out (by kernel_rfl) rfl (by simp [Value.oneCell']) ?_)
    exact row_ret2 (r := w.heap.size) (cs := #[.int .i64 0, .bool false]) rfl rfl rfl (setRow_heap _ _ _ _ _ _ R1.out) Tryz.underlying105 rfl (by kernel_rfl) rfl ⟨_, _, _, ⟨rfl, below_setRow K1.out (Nat.le_refl _) _⟩, HE.out⟩

theorem eq_words (a c : Int) (b d : Bool) (w : World) : (Op.equalIn 10000 105 (.agg #[.int .i64 a, .bool b]) (.agg #[.int .i64 c, .bool d])).run Tryz.prog w = .ok (a == c && b == d) w := by
  cases h0 : a == c
  · simp [go_sem, h0]
  cases h1 : b == d
  · simp [go_sem, h0, h1]
  · simp [go_sem, h0, h1]
theorem isZ_bad {b : BoxV} (h : b.isZ = true) : boxOkB b = false := by
  have hu : b.k.u = 0 := by
    unfold BoxV.isZ at h
    rw [Bool.and_eq_true] at h
    simpa using h.1
  unfold boxOkB keyOkB
  rw [hu]
  rfl
theorem open_not_bare {q : HelV} {k : KeyV} {no : Int} (h : openB q.y k no = true) : bareB q = false := by
  rw [Bool.eq_false_iff]
  intro hb
  rw [bareB, Bool.and_eq_true, Bool.and_eq_true, Bool.and_eq_true] at hb
  rw [openB, isZ_bad hb.2.2.1] at h
  cases h
theorem binds_no {q : HelV} {s : Int} (h : openB q.y (rightK ⟨2, s, q.d, 0⟩) (bitI q.ag) = false) : bindsB q s = false := by
  rw [bindsB, h]; simp
theorem binds_wrong {q : HelV} {s : Int} (h : helOkB q = false) : bindsB q s = false := by
  rw [bindsB, h]; rfl
theorem binds_yes {q : HelV} {s : Int} (h0 : helOkB q = true) (h : openB q.y (rightK ⟨2, s, q.d, 0⟩) (bitI q.ag) = true) {g : Int} {e ok : Bool} (hw : WordsOut (openT q.y (rightK ⟨2, s, q.d, 0⟩) (bitI q.ag)) g e ok) : bindsB q s = (ok && (g == q.g && e == q.ea)) := by
  have hb := open_not_bare h
  have h1 := h0
  rw [helOkB, hb, Bool.and_eq_true, Bool.and_eq_true, Bool.false_or, Bool.and_eq_true, Bool.and_eq_true] at h1
  rw [bindsB, h, h0, hb, hw q.g q.ea (by have := inB_true h1.2.2.2.2; omega)]
  rfl

set_option maxHeartbeats 8000000 in
theorem Binds_impl (q : HelV) (s : Int) (w : World) : Calls Tryz.prog 35 #[q.val, .int .i64 s] w fun e w' => e = .returned (.bool (bindsB q s)) ∧ Below w.heap.size w w' := by
  have cH0 := fun w' => HelloOk_impl q w'
  have cO0 := fun w' => Opened_impl q.y (rightK ⟨2, s, q.d, 0⟩) (bitI q.ag) w'
  have cW0 := fun w' => wordsIn_any (openT q.y (rightK ⟨2, s, q.d, 0⟩) (bitI q.ag)) w'
  have cN0 := fun w' => bindNo_any q w'
  have cV0 := fun w' => words_any q w'
  have cK0 := fun w' => BindKey_impl s q.d w'
  have h1 := Lib.hid (binds_wrong (q := q) (s := s))
  have h2 := Lib.hid (binds_no (q := q) (s := s))
  have h3 := Lib.hid (fun h0 h (g : Int) (e ok : Bool) hw => binds_yes (q := q) (s := s) h0 h (g := g) (e := e) (ok := ok) hw)
  obtain ⟨d, ag, ⟨⟨xu, xs, xh, xa⟩, xn, xt, xp⟩, g, ⟨⟨yu, ys, yh, ya⟩, yn, yt, yp⟩, ea⟩ := q
  have HV : Hid (HelV.val ⟨d, ag, ⟨⟨xu, xs, xh, xa⟩, xn, xt, xp⟩, g, ⟨⟨yu, ys, yh, ya⟩, yn, yt, yp⟩, ea⟩ = .agg #[.int .i64 d, .bool ag, .int .i64 xu, .int .i64 xs, .int .i64 xh, .int .i64 xa, .int .i64 xn, .string xt, .bool xp, .int .i64 g, .int .i64 yu, .int .i64 ys, .int .i64 yh, .int .i64 ya, .int .i64 yn, .string yt, .bool yp, .bool ea]) := rfl
  have HY : Hid (BoxV.val ⟨⟨yu, ys, yh, ya⟩, yn, yt, yp⟩ = .agg #[.int .i64 yu, .int .i64 ys, .int .i64 yh, .int .i64 ya, .int .i64 yn, .string yt, .bool yp]) := rfl
  rw [HV.out] at cH0 cN0 cV0 ⊢
  dsimp only at cH0 cO0 cW0 cN0 cV0 cK0 h1 h2 h3
  rw [HY.out] at cO0
  clear HV HY
  generalize bindsB ⟨d, ag, ⟨⟨xu, xs, xh, xa⟩, xn, xt, xp⟩, g, ⟨⟨yu, ys, yh, ya⟩, yn, yt, yp⟩, ea⟩ s = out at h1 h2 h3 ⊢
  generalize helOkB ⟨d, ag, ⟨⟨xu, xs, xh, xa⟩, xn, xt, xp⟩, g, ⟨⟨yu, ys, yh, ya⟩, yn, yt, yp⟩, ea⟩ = zh at cH0 h1 h3
  generalize openT ⟨⟨yu, ys, yh, ya⟩, yn, yt, yp⟩ (rightK ⟨2, s, d, 0⟩) (bitI ag) = t at cO0 cW0 h3
  generalize openB ⟨⟨yu, ys, yh, ya⟩, yn, yt, yp⟩ (rightK ⟨2, s, d, 0⟩) (bitI ag) = z at cO0 h2 h3
  generalize rightK ⟨2, s, d, 0⟩ = kk at cO0 cK0
  generalize bitI ag = bi at cO0 cN0
  obtain ⟨ku, ks, kh, ka⟩ := kk
  have HKV : Hid (KeyV.val ⟨ku, ks, kh, ka⟩ = .agg #[.int .i64 ku, .int .i64 ks, .int .i64 kh, .int .i64 ka]) := rfl
  rw [HKV.out] at cO0 cK0
  clear HKV
  have cH := Lib.hid cH0
  have cO := Lib.hid cO0
  have cW := Lib.hid cW0
  have cN := Lib.hid cN0
  have cV := Lib.hid cV0
  have cK := Lib.hid cK0
  clear cH0 cO0 cW0 cN0 cV0 cK0
  obtain ⟨W, hW⟩ : ∃ W, w.alloc (.cells #[.int .i64 d, .bool ag, .int .i64 xu, .int .i64 xs, .int .i64 xh, .int .i64 xa, .int .i64 xn, .string xt, .bool xp, .int .i64 g, .int .i64 yu, .int .i64 ys, .int .i64 yh, .int .i64 ya, .int .i64 yn, .string yt, .bool yp, .bool ea] 32) = W := ⟨_, rfl⟩
  have K : Hid (Below w.heap.size w W) := by rw [← hW]; exact (Below.refl _ w).alloc (Nat.le_refl _) _
  have G : Hid (W.heap[w.heap.size]? = some (.cells #[.int .i64 d, .bool ag, .int .i64 xu, .int .i64 xs, .int .i64 xh, .int .i64 xa, .int .i64 xn, .string xt, .bool xp, .int .i64 g, .int .i64 yu, .int .i64 ys, .int .i64 yh, .int .i64 ya, .int .i64 yn, .string yt, .bool yp, .bool ea] 32)) := by rw [← hW]; exact heap1 w _
  go_enter Tryz.func35, Tryz.ntmps35
  go_wp2_with (refine wpList_load_row rfl 32 _ rfl (w.heap.size) rfl 32 _ (0, 0) _ G.out Tryz.underlying32 rfl (by kernel_rfl) ?_)
  clear hW
  refine (cH.out _).mono ?_
  rintro e w1 ⟨rfl, hb⟩
  have G1 := Lib.hid (blk_on hb G.out)
  have K1 := Lib.hid (K.out.trans (hb.mono K.out.size))
  clear hb G K cH
  cases zh with
  | false =>
    go_wp2
    go_ret
    exact ⟨by rw [h1.out (by first | rfl | trivial)]; rfl, K1.out⟩
  | true =>
    go_wp2
    refine wp_region_own (W := w1) [] (fun _ => True) stays_true trivial [0, 0, 0, 0, 0, 1, 0, 1, 1, 0, 0, 0, 0, 0] (by kernel_rfl) (by kernel_rfl) (by kernel_rfl) ?_
    have fk : ∀ q : In (plainEnv w1 []), _ := fun q => (blk18 (q.block G1.out (by simp))).1
    have fR : Hid (∀ q : In (plainEnv w1 []), q.w.heap[w.heap.size]? = some (.cells #[.int .i64 d, .bool ag, .int .i64 xu, .int .i64 xs, .int .i64 xh, .int .i64 xa, .int .i64 xn, .string xt, .bool xp, .int .i64 g, .int .i64 yu, .int .i64 ys, .int .i64 yh, .int .i64 ya, .int .i64 yn, .string yt, .bool yp, .bool ea] 32)) := fun q => q.block G1.out (by simp)
    refine wpO_quiet 5 rfl (by kernel_rfl) ?_
    simp only [List.take, List.drop]
    repeat (go_big_quiet_step (fail))
    refine wpQuiet_nil ?_
    refine wpO_call (f := 73) (args := #[.int .i64 s, .int .i64 d]) (.agg #[.int .i64 ku, .int .i64 ks, .int .i64 kh, .int .i64 ka]) rfl (fun w' => by simp [go_sem]) (fun w' _ _ => cK.out w') ?_
    simp only [Act.put, List.setIfInBounds_toArray, List.set_cons_succ, List.set_cons_zero]
    refine wpO_load_row rfl 32 _ rfl (w.heap.size) rfl 32 _ (0, 0) _ fR.out Tryz.underlying32 rfl (by kernel_rfl) ?_
    simp only [Act.put, List.setIfInBounds_toArray, List.set_cons_succ, List.set_cons_zero]
    refine wpO_call (f := 74) (args := #[.agg #[.int .i64 d, .bool ag, .int .i64 xu, .int .i64 xs, .int .i64 xh, .int .i64 xa, .int .i64 xn, .string xt, .bool xp, .int .i64 g, .int .i64 yu, .int .i64 ys, .int .i64 yh, .int .i64 ya, .int .i64 yn, .string yt, .bool yp, .bool ea]]) (.int .i64 bi) rfl (fun w' => by simp [go_sem]) (fun w' _ _ => cN.out w') ?_
    simp only [Act.put, List.setIfInBounds_toArray, List.set_cons_succ, List.set_cons_zero]
    refine wpO_call (f := 72) (args := #[.agg #[.int .i64 yu, .int .i64 ys, .int .i64 yh, .int .i64 ya, .int .i64 yn, .string yt, .bool yp], .agg #[.int .i64 ku, .int .i64 ks, .int .i64 kh, .int .i64 ka], .int .i64 bi]) (.tuple #[.string t, .bool z]) rfl (fun w' => by simp [go_sem]) (fun w' _ _ => cO.out w') ?_
    simp only [Act.put, List.setIfInBounds_toArray, List.set_cons_succ, List.set_cons_zero]
    refine wpO_quiet 5 rfl (by kernel_rfl) ?_
    simp only [List.take, List.drop]
    repeat (go_big_quiet_step (fail))
    refine wpQuiet_nil ?_
    refine wpO_nil ?_
    rintro w3 b3' _
    have b3 := kept_below b3'
    have G3 := Lib.hid (blk_on b3 G1.out)
    have K3 := Lib.hid (K1.out.trans (b3.mono K1.out.size))
    clear fk fR b3 b3' G1 K1 cK cN cO
    cases z with
    | false =>
      go_wp2
      go_ret
      exact ⟨by rw [h2.out (by first | rfl | trivial)]; rfl, K3.out⟩
    | true =>
      go_wp2_with fail
      refine (cW.out _).mono ?_
      rintro e w4 ⟨g', e', ok, ⟨rfl, hb⟩, hw⟩
      have HE := Lib.hid (h3.out (by first | rfl | trivial) (by first | rfl | trivial) g' e' ok hw)
      have G4 := Lib.hid (blk_on hb G3.out)
      have K4 := Lib.hid (K3.out.trans (hb.mono K3.out.size))
      clear hb hw G3 K3 cW h1 h2 h3
      obtain ⟨V, hV⟩ : ∃ V, w4.alloc (.cells #[.int .i64 0, .bool false] 105) = V := ⟨_, rfl⟩
      have K5 : Hid (Below w.heap.size w V) := by rw [← hV]; exact K4.out.alloc K4.out.size _
      have G5 : Hid (V.heap[w.heap.size]? = some (.cells #[.int .i64 d, .bool ag, .int .i64 xu, .int .i64 xs, .int .i64 xh, .int .i64 xa, .int .i64 xn, .string xt, .bool xp, .int .i64 g, .int .i64 yu, .int .i64 ys, .int .i64 yh, .int .i64 ya, .int .i64 yn, .string yt, .bool yp, .bool ea] 32)) := by rw [← hV]; exact alloc_blk G4.out
      have R5 : Hid (V.heap[w4.heap.size]? = some (.cells #[.int .i64 0, .bool false] 105)) := by rw [← hV]; exact heap1 w4 _
      have hlt : w.heap.size < w4.heap.size := blk_in G4.out
      clear G4 K4
      go_wp2_with (refine wpList_store_row rfl 105 _ _ rfl (w4.heap.size) #[.int .i64 g', .bool e'] rfl rfl 105 _ R5.out (by kernel_rfl) rfl (by simp [Value.oneCell']) ?_)
      clear hV
      have R6 : Hid ((V.setRow w4.heap.size #[.int .i64 g', .bool e']).heap[w4.heap.size]? = some (.cells #[.int .i64 g', .bool e'] 105)) := setRow_heap _ _ _ _ _ _ R5.out
      have G6 : Hid ((V.setRow w4.heap.size #[.int .i64 g', .bool e']).heap[w.heap.size]? = some (.cells #[.int .i64 d, .bool ag, .int .i64 xu, .int .i64 xs, .int .i64 xh, .int .i64 xa, .int .i64 xn, .string xt, .bool xp, .int .i64 g, .int .i64 yu, .int .i64 ys, .int .i64 yh, .int .i64 ya, .int .i64 yn, .string yt, .bool yp, .bool ea] 32)) := (setRow_other _ _ _ _ (by omega)).trans G5.out
      have K6 : Hid (Below w.heap.size w (V.setRow w4.heap.size #[.int .i64 g', .bool e'])) := below_setRow K5.out (by omega) _
      generalize V.setRow w4.heap.size #[.int .i64 g', .bool e'] = V6 at R6 G6 K6 ⊢
      clear R5 G5 K5
      refine wp_region_own (W := V6) [] (fun _ => True) stays_true trivial [0, 0, 0, 0, 1, 0, 0, 0] (by kernel_rfl) (by kernel_rfl) (by kernel_rfl) ?_
      have fw : ∀ q : In (plainEnv V6 []), (q.w.cell? ⟨w4.heap.size, 0, none⟩ = some (.int .i64 g') ∧ q.w.cell? ⟨w4.heap.size, 1, none⟩ = some (.bool e')) := fun q => ⟨blk_cell (q.block R6.out (by simp)) 0, blk_cell (q.block R6.out (by simp)) 1⟩
      have fR : Hid (∀ q : In (plainEnv V6 []), q.w.heap[w.heap.size]? = some (.cells #[.int .i64 d, .bool ag, .int .i64 xu, .int .i64 xs, .int .i64 xh, .int .i64 xa, .int .i64 xn, .string xt, .bool xp, .int .i64 g, .int .i64 yu, .int .i64 ys, .int .i64 yh, .int .i64 ya, .int .i64 yn, .string yt, .bool yp, .bool ea] 32)) := fun q => q.block G6.out (by simp)
      have hq := eq_words g' g e' ea
      generalize (g' == g && e' == ea) = u at hq HE
      cases ok with
      | false =>
        refine wpO_quiet 4 rfl (by kernel_rfl) ?_
        simp only [List.take, List.drop]
        repeat (go_big_quiet_step (fail))
        refine wpQuiet_nil ?_
        refine wpO_skip rfl ?_
        simp only [Act.put, List.setIfInBounds_toArray, List.set_cons_succ, List.set_cons_zero]
        refine wpO_quiet 3 rfl (by kernel_rfl) ?_
        simp only [List.take, List.drop]
        repeat (go_big_quiet_step (fail))
        refine wpQuiet_nil ?_
        refine wpO_nil ?_
        rintro w7 b7 _
        have K7 := Lib.hid (K6.out.trans ((kept_below b7).mono K6.out.size))
        clear fR fw b7
        go_wp2
        go_ret
        exact ⟨by rw [HE.out]; rfl, K7.out⟩
      | true =>
        refine wpO_quiet 3 rfl (by kernel_rfl) ?_
        simp only [List.take, List.drop]
        repeat (go_big_quiet_step (fail))
        refine wpQuiet_nil ?_
        refine wpO_load_row rfl 32 _ rfl (w.heap.size) rfl 32 _ (0, 0) _ fR.out Tryz.underlying32 rfl (by kernel_rfl) ?_
        simp only [Act.put, List.setIfInBounds_toArray, List.set_cons_succ, List.set_cons_zero]
        refine wpO_call (f := 76) (args := #[.agg #[.int .i64 d, .bool ag, .int .i64 xu, .int .i64 xs, .int .i64 xh, .int .i64 xa, .int .i64 xn, .string xt, .bool xp, .int .i64 g, .int .i64 yu, .int .i64 ys, .int .i64 yh, .int .i64 ya, .int .i64 yn, .string yt, .bool yp, .bool ea]]) (.agg #[.int .i64 g, .bool ea]) rfl (fun w' => by simp [go_sem]) (fun w' _ _ => cV.out w') ?_
        simp only [Act.put, List.setIfInBounds_toArray, List.set_cons_succ, List.set_cons_zero]
        refine wpO_quiet 3 rfl (by kernel_rfl) ?_
        simp only [List.take, List.drop]
        repeat (go_big_quiet_step (fail))
        refine wpQuiet_nil ?_
        refine wpO_nil ?_
        rintro w7 b7 _
        have K7 := Lib.hid (K6.out.trans ((kept_below b7).mono K6.out.size))
        clear fR fw b7
        go_wp2
        go_ret
        exact ⟨by rw [HE.out, Bool.true_and]; rfl, K7.out⟩

end Go.Proofs.YtoffdlokndngeaaGreatDoor.Tx
namespace Go.Proofs.YtoffdlokndngeaaGreatDoor.Tx
open Go.RowKit

theorem unseal_sealed {inn : Int} {b : BoxV} {t : TokV} (h : unsealO inn b = some t) : sealedB t = true := by
  rw [← prog_model] at h
  unfold progO at h
  split at h
  · split at h
    · split at h
      · split at h
        · rename_i hk
          injection h with h
          subst h
          rw [Bool.and_eq_true] at hk
          exact hk.2
        · cases h
      · cases h
    · cases h
  · cases h
theorem binds_ok {q : HelV} {s : Int} (h : bindsB q s = true) : helOkB q = true := by
  rw [bindsB, Bool.and_eq_true, Bool.and_eq_true] at h
  exact h.1.1

set_option maxHeartbeats 8000000 in
theorem TokenIn_impl (inn : Int) (q : HelV) (now : Int) (w : World) (hg : Glob w) : Calls Tryz.prog 10 #[.int .i64 inn, q.val, .int .i64 now] w fun e w' => e = .returned (.tuple #[((tokenInO inn q now).getD .zero).val, .bool (tokenInO inn q now).isSome]) ∧ Below w.heap.size w w' := by
  have h2' : Hid ((unsealO inn q.x).isSome = false → tokenInO inn q now = none) := fun h => tokenIn_none (by simpa using h)
  have h3' : Hid ((unsealO inn q.x).isSome = true → freshB ((unsealO inn q.x).getD .zero) now = false → tokenInO inn q now = none) := fun h hf => by
    obtain ⟨t, ht⟩ := Option.isSome_iff_exists.1 h
    rw [ht] at hf
    exact tokenIn_stale ht hf
  have h4' : Hid ((unsealO inn q.x).isSome = true → bindsB q ((unsealO inn q.x).getD .zero).s = false → tokenInO inn q now = none) := fun h hf => by
    obtain ⟨t, ht⟩ := Option.isSome_iff_exists.1 h
    rw [ht] at hf
    exact tokenIn_other ht hf
  have h5' : Hid ((unsealO inn q.x).isSome = true → freshB ((unsealO inn q.x).getD .zero) now = true → bindsB q ((unsealO inn q.x).getD .zero).s = true → tokenInO inn q now = some ((unsealO inn q.x).getD .zero)) := fun h hf hb => by
    obtain ⟨t, ht⟩ := Option.isSome_iff_exists.1 h
    rw [ht] at hf hb ⊢
    exact tokenIn_some (binds_ok hb) ht hf hb
  have cU := Lib.hid fun (w' : World) hG => Unsealed_impl inn q.x w' hG
  have cF : Hid (∀ w' : World, (unsealO inn q.x).isSome = true → Glob w' → Calls Tryz.prog 34 #[((unsealO inn q.x).getD .zero).val, .int .i64 now] w' fun e w'' => e = .returned (.bool (freshB ((unsealO inn q.x).getD .zero) now)) ∧ Below w'.heap.size w' w'') := fun w' h hG => by
    obtain ⟨t, ht⟩ := Option.isSome_iff_exists.1 h
    rw [ht]
    have hs := unseal_sealed ht
    have hr := tok_range (unseal_right ht).1
    have hc := Fresh_impl t now (by unfold I64; omega) (by unfold I64; omega) (by unfold I64; omega) (by unfold I64; omega) w' hG.tab
    rw [hs, Bool.and_true] at hc
    exact hc
  have cB := Lib.hid fun w' => Binds_impl q ((unsealO inn q.x).getD .zero).s w'
  generalize tokenInO inn q now = O at h2' h3' h4' h5' ⊢
  generalize (unsealO inn q.x).isSome = z at h2' h3' h4' h5' cU cF
  generalize (unsealO inn q.x).getD .zero = t at h3' h4' h5' cU cF cB
  generalize freshB t now = zf at h3' h5' cF
  generalize bindsB q t.s = zb at h4' h5' cB
  have h2 : Hid (z = false → O = none) := h2'.out
  have h3 : Hid (z = true → zf = false → O = none) := h3'.out
  have h4 : Hid (z = true → zf = true → zb = false → O = none) := fun h _ => h4'.out h
  have h5 : Hid (z = true → zf = true → zb = true → O = some t) := h5'.out
  clear h2' h3' h4' h5'
  have HGB := Lib.hid hg
  clear hg
  obtain ⟨d, ag, ⟨⟨xu, xs, xh, xa⟩, xn, xt, xp⟩, g, ⟨⟨yu, ys, yh, ya⟩, yn, yt, yp⟩, ea⟩ := q
  obtain ⟨ts, tb, tl, tm, ⟨⟨pu, ps, ph, pa⟩, pn, pt, pp⟩⟩ := t
  have HV : Hid (HelV.val ⟨d, ag, ⟨⟨xu, xs, xh, xa⟩, xn, xt, xp⟩, g, ⟨⟨yu, ys, yh, ya⟩, yn, yt, yp⟩, ea⟩ = .agg #[.int .i64 d, .bool ag, .int .i64 xu, .int .i64 xs, .int .i64 xh, .int .i64 xa, .int .i64 xn, .string xt, .bool xp, .int .i64 g, .int .i64 yu, .int .i64 ys, .int .i64 yh, .int .i64 ya, .int .i64 yn, .string yt, .bool yp, .bool ea]) := rfl
  have HX : Hid (BoxV.val ⟨⟨xu, xs, xh, xa⟩, xn, xt, xp⟩ = .agg #[.int .i64 xu, .int .i64 xs, .int .i64 xh, .int .i64 xa, .int .i64 xn, .string xt, .bool xp]) := rfl
  have HT : Hid (TokV.val ⟨ts, tb, tl, tm, ⟨⟨pu, ps, ph, pa⟩, pn, pt, pp⟩⟩ = .agg #[.int .i64 ts, .int .i64 tb, .int .i64 tl, .int .i64 tm, .int .i64 pu, .int .i64 ps, .int .i64 ph, .int .i64 pa, .int .i64 pn, .string pt, .bool pp]) := rfl
  rw [HV.out] at cB ⊢
  dsimp only at cU cB
  rw [HX.out] at cU
  rw [HT.out] at cU cF
  clear HV HX
  obtain ⟨W0, hW0⟩ : ∃ W, (w.alloc (.cells #[.int .i64 d, .bool ag, .int .i64 xu, .int .i64 xs, .int .i64 xh, .int .i64 xa, .int .i64 xn, .string xt, .bool xp, .int .i64 g, .int .i64 yu, .int .i64 ys, .int .i64 yh, .int .i64 ya, .int .i64 yn, .string yt, .bool yp, .bool ea] 32)).alloc (.cells #[.int .i64 0, .int .i64 0, .int .i64 0, .int .i64 0, .int .i64 0, .int .i64 0, .int .i64 0, .int .i64 0, .int .i64 0, .string ⟨#[]⟩, .bool false] 39) = W := ⟨_, rfl⟩
  have K0 : Hid (Below w.heap.size w W0) := by rw [← hW0]; exact ((Below.refl _ w).alloc (Nat.le_refl _) _).alloc (by simp; try omega) _
  have Q0 : Hid (W0.heap[w.heap.size]? = some (.cells #[.int .i64 d, .bool ag, .int .i64 xu, .int .i64 xs, .int .i64 xh, .int .i64 xa, .int .i64 xn, .string xt, .bool xp, .int .i64 g, .int .i64 yu, .int .i64 ys, .int .i64 yh, .int .i64 ya, .int .i64 yn, .string yt, .bool yp, .bool ea] 32)) := by rw [← hW0]; exact heap2a w _ _
  have R0 : Hid (W0.heap[w.heap.size + 1]? = some (.cells #[.int .i64 0, .int .i64 0, .int .i64 0, .int .i64 0, .int .i64 0, .int .i64 0, .int .i64 0, .int .i64 0, .int .i64 0, .string ⟨#[]⟩, .bool false] 39)) := by rw [← hW0]; exact heap2b w _ _
  go_enter Tryz.func10, Tryz.ntmps10
  obtain ⟨⟨a0, a1, a2, a3, a4, a5, a6, a7, a8, a9, a10, a11, a12, a13, a14, a15, a16, a17⟩, _⟩ := blk18 Q0.out
  go_wp2_with fail
  clear hW0
  clear a0 a1 a2 a3 a4 a5 a6 a7 a8 a9 a10 a11 a12 a13 a14 a15 a16 a17
  refine (cU.out _ (HGB.out.on K0.out)).mono ?_
  rintro e w1 ⟨rfl, hb⟩
  have Q1 := Lib.hid (blk_on hb Q0.out)
  have R1 := Lib.hid (blk_on hb R0.out)
  have K1 := Lib.hid (K0.out.trans (hb.mono K0.out.size))
  clear hb Q0 R0 K0
  obtain ⟨V2, hV2⟩ : ∃ V, w1.alloc (.cells #[.int .i64 0, .int .i64 0, .int .i64 0, .int .i64 0, .int .i64 0, .int .i64 0, .int .i64 0, .int .i64 0, .int .i64 0, .string ⟨#[]⟩, .bool false] 39) = V := ⟨_, rfl⟩
  have ltV2Q : w.heap.size < w1.heap.size := blk_in Q1.out
  have ltV2R : w.heap.size + 1 < w1.heap.size := blk_in R1.out
  have Q2 : Hid (V2.heap[w.heap.size]? = some (.cells #[.int .i64 d, .bool ag, .int .i64 xu, .int .i64 xs, .int .i64 xh, .int .i64 xa, .int .i64 xn, .string xt, .bool xp, .int .i64 g, .int .i64 yu, .int .i64 ys, .int .i64 yh, .int .i64 ya, .int .i64 yn, .string yt, .bool yp, .bool ea] 32)) := by rw [← hV2]; exact alloc_blk Q1.out
  have R2 : Hid (V2.heap[w.heap.size + 1]? = some (.cells #[.int .i64 0, .int .i64 0, .int .i64 0, .int .i64 0, .int .i64 0, .int .i64 0, .int .i64 0, .int .i64 0, .int .i64 0, .string ⟨#[]⟩, .bool false] 39)) := by rw [← hV2]; exact alloc_blk R1.out
  have hb : Below w1.heap.size w1 V2 := by rw [← hV2]; exact (Below.refl _ w1).alloc (Nat.le_refl _) _
  have K2 := Lib.hid (K1.out.trans (hb.mono K1.out.size))
  have T2 : Hid (V2.heap[w1.heap.size]? = some (.cells #[.int .i64 0, .int .i64 0, .int .i64 0, .int .i64 0, .int .i64 0, .int .i64 0, .int .i64 0, .int .i64 0, .int .i64 0, .string ⟨#[]⟩, .bool false] 39)) := by rw [← hV2]; exact heap1 w1 _
  have lbV2 : w.heap.size ≤ w1.heap.size := K1.out.size
  clear hb Q1 R1 K1
  cases z with
  | false =>
    have Q3 : Hid ((V2.setRow w1.heap.size #[.int .i64 ts, .int .i64 tb, .int .i64 tl, .int .i64 tm, .int .i64 pu, .int .i64 ps, .int .i64 ph, .int .i64 pa, .int .i64 pn, .string pt, .bool pp]).heap[w.heap.size]? = some (.cells #[.int .i64 d, .bool ag, .int .i64 xu, .int .i64 xs, .int .i64 xh, .int .i64 xa, .int .i64 xn, .string xt, .bool xp, .int .i64 g, .int .i64 yu, .int .i64 ys, .int .i64 yh, .int .i64 ya, .int .i64 yn, .string yt, .bool yp, .bool ea] 32)) := (setRow_other _ _ _ _ (by omega)).trans Q2.out
    have R3 : Hid ((V2.setRow w1.heap.size #[.int .i64 ts, .int .i64 tb, .int .i64 tl, .int .i64 tm, .int .i64 pu, .int .i64 ps, .int .i64 ph, .int .i64 pa, .int .i64 pn, .string pt, .bool pp]).heap[w.heap.size + 1]? = some (.cells #[.int .i64 0, .int .i64 0, .int .i64 0, .int .i64 0, .int .i64 0, .int .i64 0, .int .i64 0, .int .i64 0, .int .i64 0, .string ⟨#[]⟩, .bool false] 39)) := (setRow_other _ _ _ _ (by omega)).trans R2.out
    have T3 : Hid ((V2.setRow w1.heap.size #[.int .i64 ts, .int .i64 tb, .int .i64 tl, .int .i64 tm, .int .i64 pu, .int .i64 ps, .int .i64 ph, .int .i64 pa, .int .i64 pn, .string pt, .bool pp]).heap[w1.heap.size]? = some (.cells #[.int .i64 ts, .int .i64 tb, .int .i64 tl, .int .i64 tm, .int .i64 pu, .int .i64 ps, .int .i64 ph, .int .i64 pa, .int .i64 pn, .string pt, .bool pp] 39)) := setRow_heap _ _ _ _ _ _ T2.out
    have K3 : Hid (Below w.heap.size w (V2.setRow w1.heap.size #[.int .i64 ts, .int .i64 tb, .int .i64 tl, .int .i64 tm, .int .i64 pu, .int .i64 ps, .int .i64 ph, .int .i64 pa, .int .i64 pn, .string pt, .bool pp])) := below_setRow K2.out (by omega) _
    go_wp2_with (first | (refine wpList_store_row rfl 39 _ _ rfl (w1.heap.size) #[.int .i64 ts, .int .i64 tb, .int .i64 tl, .int .i64 tm, .int .i64 pu, .int .i64 ps, .int .i64 ph, .int .i64 pa, .int .i64 pn, .string pt, .bool pp] rfl rfl 39 _ T2.out (by kernel_rfl) rfl (by simp [Value.oneCell']) ?_) | (refine wpList_store_row rfl 39 _ _ rfl (w.heap.size + 1) #[.int .i64 0, .int .i64 0, .int .i64 0, .int .i64 0, .int .i64 0, .int .i64 0, .int .i64 0, .int .i64 0, .int .i64 0, .string ⟨#[]⟩, .bool false] rfl rfl 39 _ R3.out (by kernel_rfl) rfl (by simp [Value.oneCell']) ?_))
    exact row_ret2 (r := w.heap.size + 1) (cs := #[.int .i64 0, .int .i64 0, .int .i64 0, .int .i64 0, .int .i64 0, .int .i64 0, .int .i64 0, .int .i64 0, .int .i64 0, .string ⟨#[]⟩, .bool false]) rfl rfl rfl (setRow_heap _ _ _ _ _ _ R3.out) Tryz.underlying39 rfl (by kernel_rfl) rfl ⟨by rw [h2.out (by first | assumption | rfl | trivial)]; rfl, below_setRow K3.out (by omega) _⟩
  | true =>
    have Q3 : Hid ((V2.setRow w1.heap.size #[.int .i64 ts, .int .i64 tb, .int .i64 tl, .int .i64 tm, .int .i64 pu, .int .i64 ps, .int .i64 ph, .int .i64 pa, .int .i64 pn, .string pt, .bool pp]).heap[w.heap.size]? = some (.cells #[.int .i64 d, .bool ag, .int .i64 xu, .int .i64 xs, .int .i64 xh, .int .i64 xa, .int .i64 xn, .string xt, .bool xp, .int .i64 g, .int .i64 yu, .int .i64 ys, .int .i64 yh, .int .i64 ya, .int .i64 yn, .string yt, .bool yp, .bool ea] 32)) := (setRow_other _ _ _ _ (by omega)).trans Q2.out
    have R3 : Hid ((V2.setRow w1.heap.size #[.int .i64 ts, .int .i64 tb, .int .i64 tl, .int .i64 tm, .int .i64 pu, .int .i64 ps, .int .i64 ph, .int .i64 pa, .int .i64 pn, .string pt, .bool pp]).heap[w.heap.size + 1]? = some (.cells #[.int .i64 0, .int .i64 0, .int .i64 0, .int .i64 0, .int .i64 0, .int .i64 0, .int .i64 0, .int .i64 0, .int .i64 0, .string ⟨#[]⟩, .bool false] 39)) := (setRow_other _ _ _ _ (by omega)).trans R2.out
    have T3 : Hid ((V2.setRow w1.heap.size #[.int .i64 ts, .int .i64 tb, .int .i64 tl, .int .i64 tm, .int .i64 pu, .int .i64 ps, .int .i64 ph, .int .i64 pa, .int .i64 pn, .string pt, .bool pp]).heap[w1.heap.size]? = some (.cells #[.int .i64 ts, .int .i64 tb, .int .i64 tl, .int .i64 tm, .int .i64 pu, .int .i64 ps, .int .i64 ph, .int .i64 pa, .int .i64 pn, .string pt, .bool pp] 39)) := setRow_heap _ _ _ _ _ _ T2.out
    have K3 : Hid (Below w.heap.size w (V2.setRow w1.heap.size #[.int .i64 ts, .int .i64 tb, .int .i64 tl, .int .i64 tm, .int .i64 pu, .int .i64 ps, .int .i64 ph, .int .i64 pa, .int .i64 pn, .string pt, .bool pp])) := below_setRow K2.out (by omega) _
    go_wp2_with (first | (refine wpList_store_row rfl 39 _ _ rfl (w1.heap.size) #[.int .i64 ts, .int .i64 tb, .int .i64 tl, .int .i64 tm, .int .i64 pu, .int .i64 ps, .int .i64 ph, .int .i64 pa, .int .i64 pn, .string pt, .bool pp] rfl rfl 39 _ T2.out (by kernel_rfl) rfl (by simp [Value.oneCell']) ?_) | (refine wpList_load_wanted rfl 39 _ rfl (w1.heap.size) rfl 39 _ (0, 0) _ T3.out Tryz.underlying39 rfl (by kernel_rfl) ?_))
    clear hV2 Q2 R2 T2 K2
    generalize V2.setRow w1.heap.size #[.int .i64 ts, .int .i64 tb, .int .i64 tl, .int .i64 tm, .int .i64 pu, .int .i64 ps, .int .i64 ph, .int .i64 pa, .int .i64 pn, .string pt, .bool pp] = S3 at Q3 R3 T3 K3 ⊢
    refine (cF.out _ (by first | assumption | rfl | trivial) (HGB.out.on K3.out)).mono ?_
    rintro e w4 ⟨rfl, hb⟩
    have Q4 := Lib.hid (blk_on hb Q3.out)
    have R4 := Lib.hid (blk_on hb R3.out)
    have T4 := Lib.hid (blk_on hb T3.out)
    have K4 := Lib.hid (K3.out.trans (hb.mono K3.out.size))
    clear hb Q3 R3 T3 K3
    cases zf with
    | false =>
      go_wp2_with (refine wpList_store_row rfl 39 _ _ rfl (w.heap.size + 1) #[.int .i64 0, .int .i64 0, .int .i64 0, .int .i64 0, .int .i64 0, .int .i64 0, .int .i64 0, .int .i64 0, .int .i64 0, .string ⟨#[]⟩, .bool false] rfl rfl 39 _ R4.out (by kernel_rfl) rfl (by simp [Value.oneCell']) ?_)
      exact row_ret2 (r := w.heap.size + 1) (cs := #[.int .i64 0, .int .i64 0, .int .i64 0, .int .i64 0, .int .i64 0, .int .i64 0, .int .i64 0, .int .i64 0, .int .i64 0, .string ⟨#[]⟩, .bool false]) rfl rfl rfl (setRow_heap _ _ _ _ _ _ R4.out) Tryz.underlying39 rfl (by kernel_rfl) rfl ⟨by rw [h3.out (by first | assumption | rfl | trivial) (by first | assumption | rfl | trivial)]; rfl, below_setRow K4.out (by omega) _⟩
    | true =>
      obtain ⟨⟨c0, c1, c2, c3, c4, c5, c6, c7, c8, c9, c10⟩, _⟩ := blk11 T4.out
      go_wp2_with (refine wpList_load_wanted rfl 32 _ rfl (w.heap.size) rfl 32 _ (0, 0) _ Q4.out Tryz.underlying32 rfl (by kernel_rfl) ?_)
      clear c0 c1 c2 c3 c4 c5 c6 c7 c8 c9 c10
      refine (cB.out _).mono ?_
      rintro e w5 ⟨rfl, hb⟩
      have Q5 := Lib.hid (blk_on hb Q4.out)
      have R5 := Lib.hid (blk_on hb R4.out)
      have T5 := Lib.hid (blk_on hb T4.out)
      have K5 := Lib.hid (K4.out.trans (hb.mono K4.out.size))
      clear hb Q4 R4 T4 K4
      cases zb with
      | false =>
        go_wp2_with (refine wpList_store_row rfl 39 _ _ rfl (w.heap.size + 1) #[.int .i64 0, .int .i64 0, .int .i64 0, .int .i64 0, .int .i64 0, .int .i64 0, .int .i64 0, .int .i64 0, .int .i64 0, .string ⟨#[]⟩, .bool false] rfl rfl 39 _ R5.out (by kernel_rfl) rfl (by simp [Value.oneCell']) ?_)
        exact row_ret2 (r := w.heap.size + 1) (cs := #[.int .i64 0, .int .i64 0, .int .i64 0, .int .i64 0, .int .i64 0, .int .i64 0, .int .i64 0, .int .i64 0, .int .i64 0, .string ⟨#[]⟩, .bool false]) rfl rfl rfl (setRow_heap _ _ _ _ _ _ R5.out) Tryz.underlying39 rfl (by kernel_rfl) rfl ⟨by rw [h4.out (by first | assumption | rfl | trivial) (by first | assumption | rfl | trivial) (by first | assumption | rfl | trivial)]; rfl, below_setRow K5.out (by omega) _⟩
      | true =>
        go_wp2_with (first | (refine wpList_store_row rfl 39 _ _ rfl (w.heap.size + 1) #[.int .i64 ts, .int .i64 tb, .int .i64 tl, .int .i64 tm, .int .i64 pu, .int .i64 ps, .int .i64 ph, .int .i64 pa, .int .i64 pn, .string pt, .bool pp] rfl rfl 39 _ R5.out (by kernel_rfl) rfl (by simp [Value.oneCell']) ?_) | (refine wpList_load_row rfl 39 _ rfl (w1.heap.size) rfl 39 _ (0, 0) _ T5.out Tryz.underlying39 rfl (by kernel_rfl) ?_))
        exact row_ret2 (r := w.heap.size + 1) (cs := #[.int .i64 ts, .int .i64 tb, .int .i64 tl, .int .i64 tm, .int .i64 pu, .int .i64 ps, .int .i64 ph, .int .i64 pa, .int .i64 pn, .string pt, .bool pp]) rfl rfl rfl (setRow_heap _ _ _ _ _ _ R5.out) Tryz.underlying39 rfl (by kernel_rfl) rfl ⟨by rw [h5.out (by first | assumption | rfl | trivial) (by first | assumption | rfl | trivial) (by first | assumption | rfl | trivial)]; rfl, below_setRow K5.out (by omega) _⟩

set_option maxHeartbeats 4000000 in
theorem SecretOf_impl (inn : Int) (q : HelV) (now pick : Int) (w : World) (hg : Glob w) : Calls Tryz.prog 12 #[.int .i64 inn, q.val, .int .i64 now, .int .i64 pick] w fun e w' => e = .returned (.int .i64 (secretI inn q now pick)) ∧ Below w.heap.size w w' := by
  have h1 : Hid (¬ (pick = 2 ∨ pick = 3) → secretI inn q now pick = 0) := fun hp => by
    cases e : tokenInO inn q now with
    | none => rw [secretI, e]
    | some t => rw [secretI, e]; exact if_neg hp
  have h2 : Hid ((pick = 2 ∨ pick = 3) → secretI inn q now pick = ((tokenInO inn q now).getD .zero).s) := fun hp => by
    cases e : tokenInO inn q now with
    | none => rw [secretI, e]; rfl
    | some t => rw [secretI, e]; exact if_pos hp
  have cI := Lib.hid fun (w' : World) hG => TokenIn_impl inn q now w' hG
  generalize secretI inn q now pick = out at h1 h2 ⊢
  generalize (tokenInO inn q now).isSome = z at cI
  generalize (tokenInO inn q now).getD .zero = t at cI h2
  have HGB := Lib.hid hg
  clear hg
  obtain ⟨d, ag, ⟨⟨xu, xs, xh, xa⟩, xn, xt, xp⟩, g, ⟨⟨yu, ys, yh, ya⟩, yn, yt, yp⟩, ea⟩ := q
  obtain ⟨ts, tb, tl, tm, ⟨⟨pu, ps, ph, pa⟩, pn, pt, pp⟩⟩ := t
  have HV : Hid (HelV.val ⟨d, ag, ⟨⟨xu, xs, xh, xa⟩, xn, xt, xp⟩, g, ⟨⟨yu, ys, yh, ya⟩, yn, yt, yp⟩, ea⟩ = .agg #[.int .i64 d, .bool ag, .int .i64 xu, .int .i64 xs, .int .i64 xh, .int .i64 xa, .int .i64 xn, .string xt, .bool xp, .int .i64 g, .int .i64 yu, .int .i64 ys, .int .i64 yh, .int .i64 ya, .int .i64 yn, .string yt, .bool yp, .bool ea]) := rfl
  have HT : Hid (TokV.val ⟨ts, tb, tl, tm, ⟨⟨pu, ps, ph, pa⟩, pn, pt, pp⟩⟩ = .agg #[.int .i64 ts, .int .i64 tb, .int .i64 tl, .int .i64 tm, .int .i64 pu, .int .i64 ps, .int .i64 ph, .int .i64 pa, .int .i64 pn, .string pt, .bool pp]) := rfl
  dsimp only at h2
  rw [HV.out] at cI ⊢
  rw [HT.out] at cI
  clear HV HT
  obtain ⟨W0, hW0⟩ : ∃ W, w.alloc (.cells #[.int .i64 d, .bool ag, .int .i64 xu, .int .i64 xs, .int .i64 xh, .int .i64 xa, .int .i64 xn, .string xt, .bool xp, .int .i64 g, .int .i64 yu, .int .i64 ys, .int .i64 yh, .int .i64 ya, .int .i64 yn, .string yt, .bool yp, .bool ea] 32) = W := ⟨_, rfl⟩
  have K0 : Hid (Below w.heap.size w W0) := by rw [← hW0]; exact (Below.refl _ w).alloc (Nat.le_refl _) _
  have Q0 : Hid (W0.heap[w.heap.size]? = some (.cells #[.int .i64 d, .bool ag, .int .i64 xu, .int .i64 xs, .int .i64 xh, .int .i64 xa, .int .i64 xn, .string xt, .bool xp, .int .i64 g, .int .i64 yu, .int .i64 ys, .int .i64 yh, .int .i64 ya, .int .i64 yn, .string yt, .bool yp, .bool ea] 32)) := by rw [← hW0]; exact heap1 w _
  go_enter Tryz.func12, Tryz.ntmps12
  by_cases hp2 : pick = 2
  ·
    have HE := Lib.hid (h2.out (.inl hp2))
    subst hp2
    go_wp2_with (refine wpList_load_row rfl 32 _ rfl (w.heap.size) rfl 32 _ (0, 0) _ Q0.out Tryz.underlying32 rfl (by kernel_rfl) ?_)
    clear hW0
    refine (cI.out _ (HGB.out.on K0.out)).mono ?_
    rintro e w1 ⟨rfl, hb⟩
    have Q1 := Lib.hid (blk_on hb Q0.out)
    have K1 := Lib.hid (K0.out.trans (hb.mono K0.out.size))
    clear hb Q0 K0
    obtain ⟨V2, hV2⟩ : ∃ V, w1.alloc (.cells #[.int .i64 0, .int .i64 0, .int .i64 0, .int .i64 0, .int .i64 0, .int .i64 0, .int .i64 0, .int .i64 0, .int .i64 0, .string ⟨#[]⟩, .bool false] 39) = V := ⟨_, rfl⟩
    have ltV2Q : w.heap.size < w1.heap.size := blk_in Q1.out
    have Q2 : Hid (V2.heap[w.heap.size]? = some (.cells #[.int .i64 d, .bool ag, .int .i64 xu, .int .i64 xs, .int .i64 xh, .int .i64 xa, .int .i64 xn, .string xt, .bool xp, .int .i64 g, .int .i64 yu, .int .i64 ys, .int .i64 yh, .int .i64 ya, .int .i64 yn, .string yt, .bool yp, .bool ea] 32)) := by rw [← hV2]; exact alloc_blk Q1.out
    have hb : Below w1.heap.size w1 V2 := by rw [← hV2]; exact (Below.refl _ w1).alloc (Nat.le_refl _) _
    have K2 := Lib.hid (K1.out.trans (hb.mono K1.out.size))
    have T2 : Hid (V2.heap[w1.heap.size]? = some (.cells #[.int .i64 0, .int .i64 0, .int .i64 0, .int .i64 0, .int .i64 0, .int .i64 0, .int .i64 0, .int .i64 0, .int .i64 0, .string ⟨#[]⟩, .bool false] 39)) := by rw [← hV2]; exact heap1 w1 _
    have lbV2 : w.heap.size ≤ w1.heap.size := K1.out.size
    clear hb Q1 K1
    have Q3 : Hid ((V2.setRow w1.heap.size #[.int .i64 ts, .int .i64 tb, .int .i64 tl, .int .i64 tm, .int .i64 pu, .int .i64 ps, .int .i64 ph, .int .i64 pa, .int .i64 pn, .string pt, .bool pp]).heap[w.heap.size]? = some (.cells #[.int .i64 d, .bool ag, .int .i64 xu, .int .i64 xs, .int .i64 xh, .int .i64 xa, .int .i64 xn, .string xt, .bool xp, .int .i64 g, .int .i64 yu, .int .i64 ys, .int .i64 yh, .int .i64 ya, .int .i64 yn, .string yt, .bool yp, .bool ea] 32)) := (setRow_other _ _ _ _ (by omega)).trans Q2.out
    have T3 : Hid ((V2.setRow w1.heap.size #[.int .i64 ts, .int .i64 tb, .int .i64 tl, .int .i64 tm, .int .i64 pu, .int .i64 ps, .int .i64 ph, .int .i64 pa, .int .i64 pn, .string pt, .bool pp]).heap[w1.heap.size]? = some (.cells #[.int .i64 ts, .int .i64 tb, .int .i64 tl, .int .i64 tm, .int .i64 pu, .int .i64 ps, .int .i64 ph, .int .i64 pa, .int .i64 pn, .string pt, .bool pp] 39)) := setRow_heap _ _ _ _ _ _ T2.out
    have K3 : Hid (Below w.heap.size w (V2.setRow w1.heap.size #[.int .i64 ts, .int .i64 tb, .int .i64 tl, .int .i64 tm, .int .i64 pu, .int .i64 ps, .int .i64 ph, .int .i64 pa, .int .i64 pn, .string pt, .bool pp])) := below_setRow K2.out (by omega) _
    have ct0 := blk_cell T3.out 0
    simp only [List.getElem?_toArray, List.getElem?_cons_zero] at ct0
    go_wp2_with (refine wpList_store_row rfl 39 _ _ rfl (w1.heap.size) #[.int .i64 ts, .int .i64 tb, .int .i64 tl, .int .i64 tm, .int .i64 pu, .int .i64 ps, .int .i64 ph, .int .i64 pa, .int .i64 pn, .string pt, .bool pp] rfl rfl 39 _ T2.out (by kernel_rfl) rfl (by simp [Value.oneCell']) ?_)
    go_ret
    exact ⟨by rw [HE.out]; rfl, K3.out⟩
  ·
    have hp2' : (pick == 2) = false := by simpa using hp2
    have hp2n : (pick != 2) = true := by simpa using hp2
    by_cases hp3 : pick = 3
    ·
      have HE := Lib.hid (h2.out (.inr hp3))
      subst hp3
      clear hp2 hp2' hp2n
      go_wp2_with (refine wpList_load_row rfl 32 _ rfl (w.heap.size) rfl 32 _ (0, 0) _ Q0.out Tryz.underlying32 rfl (by kernel_rfl) ?_)
      clear hW0
      refine (cI.out _ (HGB.out.on K0.out)).mono ?_
      rintro e w1 ⟨rfl, hb⟩
      have Q1 := Lib.hid (blk_on hb Q0.out)
      have K1 := Lib.hid (K0.out.trans (hb.mono K0.out.size))
      clear hb Q0 K0
      obtain ⟨V2, hV2⟩ : ∃ V, w1.alloc (.cells #[.int .i64 0, .int .i64 0, .int .i64 0, .int .i64 0, .int .i64 0, .int .i64 0, .int .i64 0, .int .i64 0, .int .i64 0, .string ⟨#[]⟩, .bool false] 39) = V := ⟨_, rfl⟩
      have ltV2Q : w.heap.size < w1.heap.size := blk_in Q1.out
      have Q2 : Hid (V2.heap[w.heap.size]? = some (.cells #[.int .i64 d, .bool ag, .int .i64 xu, .int .i64 xs, .int .i64 xh, .int .i64 xa, .int .i64 xn, .string xt, .bool xp, .int .i64 g, .int .i64 yu, .int .i64 ys, .int .i64 yh, .int .i64 ya, .int .i64 yn, .string yt, .bool yp, .bool ea] 32)) := by rw [← hV2]; exact alloc_blk Q1.out
      have hb : Below w1.heap.size w1 V2 := by rw [← hV2]; exact (Below.refl _ w1).alloc (Nat.le_refl _) _
      have K2 := Lib.hid (K1.out.trans (hb.mono K1.out.size))
      have T2 : Hid (V2.heap[w1.heap.size]? = some (.cells #[.int .i64 0, .int .i64 0, .int .i64 0, .int .i64 0, .int .i64 0, .int .i64 0, .int .i64 0, .int .i64 0, .int .i64 0, .string ⟨#[]⟩, .bool false] 39)) := by rw [← hV2]; exact heap1 w1 _
      have lbV2 : w.heap.size ≤ w1.heap.size := K1.out.size
      clear hb Q1 K1
      have Q3 : Hid ((V2.setRow w1.heap.size #[.int .i64 ts, .int .i64 tb, .int .i64 tl, .int .i64 tm, .int .i64 pu, .int .i64 ps, .int .i64 ph, .int .i64 pa, .int .i64 pn, .string pt, .bool pp]).heap[w.heap.size]? = some (.cells #[.int .i64 d, .bool ag, .int .i64 xu, .int .i64 xs, .int .i64 xh, .int .i64 xa, .int .i64 xn, .string xt, .bool xp, .int .i64 g, .int .i64 yu, .int .i64 ys, .int .i64 yh, .int .i64 ya, .int .i64 yn, .string yt, .bool yp, .bool ea] 32)) := (setRow_other _ _ _ _ (by omega)).trans Q2.out
      have T3 : Hid ((V2.setRow w1.heap.size #[.int .i64 ts, .int .i64 tb, .int .i64 tl, .int .i64 tm, .int .i64 pu, .int .i64 ps, .int .i64 ph, .int .i64 pa, .int .i64 pn, .string pt, .bool pp]).heap[w1.heap.size]? = some (.cells #[.int .i64 ts, .int .i64 tb, .int .i64 tl, .int .i64 tm, .int .i64 pu, .int .i64 ps, .int .i64 ph, .int .i64 pa, .int .i64 pn, .string pt, .bool pp] 39)) := setRow_heap _ _ _ _ _ _ T2.out
      have K3 : Hid (Below w.heap.size w (V2.setRow w1.heap.size #[.int .i64 ts, .int .i64 tb, .int .i64 tl, .int .i64 tm, .int .i64 pu, .int .i64 ps, .int .i64 ph, .int .i64 pa, .int .i64 pn, .string pt, .bool pp])) := below_setRow K2.out (by omega) _
      have ct0 := blk_cell T3.out 0
      simp only [List.getElem?_toArray, List.getElem?_cons_zero] at ct0
      go_wp2_with (refine wpList_store_row rfl 39 _ _ rfl (w1.heap.size) #[.int .i64 ts, .int .i64 tb, .int .i64 tl, .int .i64 tm, .int .i64 pu, .int .i64 ps, .int .i64 ph, .int .i64 pa, .int .i64 pn, .string pt, .bool pp] rfl rfl 39 _ T2.out (by kernel_rfl) rfl (by simp [Value.oneCell']) ?_)
      go_ret
      exact ⟨by rw [HE.out]; rfl, K3.out⟩
    ·
      have HE := Lib.hid (h1.out (fun h => h.elim hp2 hp3))
      have hp3' : (pick == 3) = false := by simpa using hp3
      have hp3n : (pick != 3) = true := by simpa using hp3
      go_wp2_with fail
      go_ret
      exact ⟨by rw [HE.out]; rfl, K0.out⟩

end Go.Proofs.YtoffdlokndngeaaGreatDoor.Tx

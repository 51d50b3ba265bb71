/-
  Plain facts on greetings: which are right, which are without a token; and what == says of a greeting and one without a token, of a box and the zero box. No conditions.
  Plain facts on a number's digits: what is read of what was written, what was written of what is read. Nothing of the program is named here. No conditions.
  Plain facts on answers: which are right, what is answered, by which secrets they prove themselves; and what == says of two answers that are the same, and of one and one with nothing else in it. No conditions.
  Plain facts on words and seats: which seats are right, what a seat hears. No conditions.
-/
import Derived.Test.YtakhjdodljhfmaaBox0
import Derived.Test.YtakhjdodljhfmaaNum
import Derived.Test.YtakhjdodljhfmaaRow0
import Derived.Test.YtakhjdodljhfmaaElts
namespace Go.Proofs.Ytakhjdodljhfmaa.Tx
open Go.RowKit

/-- A greeting's eighteen cells. -/
structure HelV where
  d : Int
  ag : Bool
  x : BoxV
  g : Int
  y : BoxV
  ea : Bool
def HelV.zero : HelV := ⟨0, false, .zero, 0, .zero, false⟩
def HelV.cells (q : HelV) : List Value := .int .i64 q.d :: .bool q.ag :: (q.x.cells ++ (.int .i64 q.g :: (q.y.cells ++ [.bool q.ea])))
def HelV.val (q : HelV) : Value := .agg q.cells.toArray
/-- Is it the zero box? -/
def BoxV.isZ (b : BoxV) : Bool := b.k.u == 0 && (b.k.s == 0 && (b.k.h == 0 && (b.k.a == 0 && (b.no == 0 && (b.t.toList.isEmpty && !b.sp)))))
/-- Is it without a token? -/
def bareB (q : HelV) : Bool := q.x.isZ && (q.g == 0 && (q.y.isZ && !q.ea))
/-- Is it right? -/
def helOkB (q : HelV) : Bool := isDrawB q.d && (!(q.ag && q.ea) && (bareB q || (boxOkB q.x && (boxOkB q.y && inB q.g 0 100000))))
/-- What is greeted without a token. -/
def helGr (d : Int) (ag : Bool) : HelV := ⟨d, ag, .zero, 0, .zero, false⟩
theorem gr_bare (d : Int) (ag : Bool) : bareB (helGr d ag) = true := by simp [bareB, helGr, BoxV.isZ, BoxV.zero, KeyV.zero, ByteArray.toList_eq]
theorem gr_ok (d : Int) (ag : Bool) : helOkB (helGr d ag) = isDrawB d := by rw [helOkB, gr_bare]; simp [helGr]
def helNew (d : Int) (ag : Bool) : HelV := if isDrawB d then helGr d ag else .zero

set_option maxHeartbeats 2000000 in
theorem eq_box_zero (xu xs xh xa xn : Int) (xt : ByteArray) (xp : Bool) (w : World) : (Op.equalIn 10000 71 (.agg #[.int .i64 xu, .int .i64 xs, .int .i64 xh, .int .i64 xa, .int .i64 xn, .string xt, .bool xp]) (.agg #[.int .i64 0, .int .i64 0, .int .i64 0, .int .i64 0, .int .i64 0, .string ⟨#[]⟩, .bool false])).run Try.prog w = .ok (BoxV.isZ ⟨⟨xu, xs, xh, xa⟩, xn, xt, xp⟩) w := by
  unfold BoxV.isZ
  dsimp only
  cases h0 : xu == 0
  · simp [go_sem, h0]
  cases h1 : xs == 0
  · simp [go_sem, h0, h1]
  cases h2 : xh == 0
  · simp [go_sem, h0, h1, h2]
  cases h3 : xa == 0
  · simp [go_sem, h0, h1, h2, h3]
  cases h4 : xn == 0
  · simp [go_sem, h0, h1, h2, h3, h4]
  cases h5 : xt.toList.isEmpty
  · simp [go_sem, h0, h1, h2, h3, h4, h5]
  cases xp
  rotate_left
  · simp [go_sem, h0, h1, h2, h3, h4, h5]
  simp [go_sem, h0, h1, h2, h3, h4, h5]


end Go.Proofs.Ytakhjdodljhfmaa.Tx
namespace Go.Proofs.Ytakhjdodljhfmaa.Tx

/-- The number that digits tell, behind n. -/
def digN : Nat → List UInt8 → Option Nat
  | n, [] => some n
  | n, x :: r => if 48 ≤ x.toNat ∧ x.toNat ≤ 57 then digN (n * 10 + (x.toNat - 48)) r else none
/-- A number's digits as bytes. -/
def digL (k : Nat) : List UInt8 := (digs k).data.toList
theorem digL_zero : digL 0 = [] := by rw [digL, digs_zero]
theorem bytes_app (a b : ByteArray) : (a ++ b).data.toList = a.data.toList ++ b.data.toList := by
  rw [ByteArray.data_append, Array.toList_append]
theorem digL_pos {k : Nat} (h : 0 < k) : digL k = digL (k / 10) ++ [UInt8.ofNat (48 + k % 10)] := by
  rw [digL, digs_pos h, bytes_app]
  rfl
theorem byte_dig {d : Nat} (h : d < 10) : (UInt8.ofNat (48 + d)).toNat = 48 + d := by
  rw [UInt8.toNat_ofNat']; omega
theorem digN_append : ∀ (a b : List UInt8) (n : Nat), digN n (a ++ b) = (digN n a).bind fun m => digN m b
  | [], _, _ => rfl
  | x :: r, b, n => by
    rw [List.cons_append, digN, digN]
    split
    · exact digN_append r b _
    · rfl
theorem digN_one (n : Nat) {d : Nat} (h : d < 10) : digN n [UInt8.ofNat (48 + d)] = some (n * 10 + d) := by
  rw [digN, if_pos (by rw [byte_dig h]; omega), byte_dig h, digN]
  congr 1
  omega
theorem digN_digL (k : Nat) : digN 0 (digL k) = some k := by
  induction k using Nat.strongRecOn with
  | _ k ih =>
    by_cases h : k = 0
    · subst h; rw [digL_zero]; rfl
    · rw [digL_pos (by omega), digN_append, ih (k / 10) (by omega), Option.bind_some, digN_one _ (Nat.mod_lt _ (by omega))]
      congr 1
      omega
theorem digL_mem (k : Nat) : ∀ x ∈ digL k, 48 ≤ x.toNat ∧ x.toNat ≤ 57 := by
  induction k using Nat.strongRecOn with
  | _ k ih =>
    intro x hx
    by_cases h : k = 0
    · subst h; rw [digL_zero] at hx; cases hx
    · rw [digL_pos (by omega)] at hx
      rcases List.mem_append.1 hx with hx | hx
      · exact ih (k / 10) (by omega) x hx
      · rw [List.mem_singleton.1 hx, byte_dig (Nat.mod_lt _ (by omega))]; have := Nat.mod_lt k (y := 10) (by omega); omega
theorem digL_head (k : Nat) (h : 0 < k) : ∃ x r, digL k = x :: r ∧ x.toNat ≠ 48 := by
  induction k using Nat.strongRecOn with
  | _ k ih =>
    rw [digL_pos h]
    by_cases h0 : k / 10 = 0
    · rw [h0, digL_zero]
      exact ⟨_, [], rfl, by rw [byte_dig (Nat.mod_lt _ (by omega))]; omega⟩
    · obtain ⟨x, r, e, hx⟩ := ih (k / 10) (by omega) (by omega)
      exact ⟨x, r ++ [UInt8.ofNat (48 + k % 10)], by rw [e]; rfl, hx⟩
/-- The bytes of a number's text. -/
def decL (k : Nat) : List UInt8 := (decT k).data.toList
theorem decL_zero : decL 0 = [48] := rfl
theorem decL_pos {k : Nat} (h : 0 < k) : decL k = digL k := by rw [decL, decT, if_neg (by omega)]; rfl
theorem decL_mem (k : Nat) : ∀ x ∈ decL k, 48 ≤ x.toNat ∧ x.toNat ≤ 57 := by
  by_cases h : k = 0
  · subst h; intro x hx; rw [decL_zero, List.mem_singleton] at hx; subst hx; decide
  · rw [decL_pos (by omega)]; exact digL_mem k
theorem decL_len {k : Nat} (h : k ≤ 999999999) : 1 ≤ (decL k).length ∧ (decL k).length ≤ 9 := by
  by_cases h0 : k = 0
  · subst h0; rw [decL_zero]; decide
  · have h1 := digs_size 9 k (by omega)
    obtain ⟨x, r, e, _⟩ := digL_head k (by omega)
    have h2 : (digL k).length = (digs k).size := by simp [digL]
    rw [decL_pos (by omega)]
    refine ⟨by rw [e]; simp, by omega⟩
theorem dig_back : ∀ (n : Nat) (l : List UInt8) (m : Nat), l.length = n → l ≠ [] → digN 0 l = some m → (l.length = 1 ∨ ∀ c, l.head? = some c → c.toNat ≠ 48) → l = decL m ∧ (1 < l.length → 0 < m)
  | 0, l, m, hl, hn, _, _ => absurd (List.eq_nil_of_length_eq_zero hl) hn
  | n + 1, l, m, hl, _, h, hz => by
    obtain ⟨l', d, rfl⟩ : ∃ l' d, l = l' ++ [d] := ⟨l.dropLast, l.getLast (by intro e; rw [e] at hl; simp at hl), (List.dropLast_concat_getLast _).symm⟩
    rw [digN_append] at h
    cases h1 : digN 0 l' with
    | none => rw [h1] at h; cases h
    | some q =>
      rw [h1, Option.bind_some] at h
      unfold digN at h
      split at h
      · rename_i hd
        simp only [digN, Option.some.injEq] at h
        have hdd : d = UInt8.ofNat (48 + (d.toNat - 48)) := by
          apply UInt8.toNat_inj.1
          rw [byte_dig (by omega)]; omega
        by_cases hl' : l' = []
        · subst hl'
          simp [digN] at h1
          subst h1
          have hm : m = d.toNat - 48 := by omega
          refine ⟨?_, by simp⟩
          by_cases hm0 : m = 0
          · subst hm0; rw [decL_zero, List.nil_append, hdd, ← hm]; rfl
          · rw [decL_pos (by omega), digL_pos (by omega), Nat.div_eq_of_lt (by omega), digL_zero, Nat.mod_eq_of_lt (by omega), List.nil_append, List.nil_append, hdd, ← hm]
        · have hll : l'.length = n := by simpa using hl
          have hz' : l'.length = 1 ∨ ∀ c, l'.head? = some c → c.toNat ≠ 48 := by
            rcases hz with hz | hz
            · simp at hz; exact absurd hz hl'
            · refine .inr fun c hc => hz c ?_
              rw [List.head?_append, hc]; rfl
          obtain ⟨e1, e2⟩ := dig_back n l' q hll hl' h1 hz'
          have hq : 0 < q := by
            by_cases h2 : 1 < l'.length
            · exact e2 h2
            · obtain ⟨c, rfl⟩ : ∃ c, l' = [c] := List.length_eq_one_iff.1 (by have := List.length_pos_iff.2 hl'; omega)
              have hc : c.toNat ≠ 48 := by
                rcases hz with hz | hz
                · simp at hz
                · exact hz c rfl
              unfold digN at h1
              split at h1
              · simp [digN] at h1; omega
              · cases h1
          refine ⟨?_, fun _ => by omega⟩
          rw [decL_pos (by omega), digL_pos (by omega)]
          have e3 : m / 10 = q := by omega
          have e4 : m % 10 = d.toNat - 48 := by omega
          rw [e3, e4, ← hdd, ← decL_pos hq, ← e1]
      · cases h
theorem dig_lt : ∀ (l : List UInt8) (n m : Nat), digN n l = some m → m < (n + 1) * 10 ^ l.length
  | [], n, m, h => by simp [digN] at h; simp; omega
  | x :: r, n, m, h => by
    unfold digN at h
    split at h
    · have h1 := dig_lt r _ m h
      rw [List.length_cons, Nat.pow_succ]
      have h2 : (n * 10 + (x.toNat - 48) + 1) * 10 ^ r.length ≤ ((n + 1) * 10) * 10 ^ r.length := Nat.mul_le_mul_right _ (by omega)
      have h3 : (n + 1) * (10 ^ r.length * 10) = ((n + 1) * 10) * 10 ^ r.length := by rw [Nat.mul_comm (10 ^ r.length) 10, Nat.mul_assoc]
      omega
    · cases h

end Go.Proofs.Ytakhjdodljhfmaa.Tx
namespace Go.Proofs.Ytakhjdodljhfmaa.Tx
open Go.RowKit

/-- An answer's ten cells. -/
structure AnsV where
  h : Int
  d : Int
  p : Int
  f : BoxV
def AnsV.zero : AnsV := ⟨0, 0, 0, .zero⟩
def AnsV.cells (a : AnsV) : List Value := .int .i64 a.h :: .int .i64 a.d :: .int .i64 a.p :: a.f.cells
def AnsV.val (a : AnsV) : Value := .agg a.cells.toArray
/-- Is it right? -/
def ansOkB (a : AnsV) : Bool := isDrawB a.h && (inB a.p 1 4 && (if a.p == 4 then a.d == 0 && a.f.isZ else isDrawB a.d && boxOkB a.f))
/-- Does a secret go with what is picked? -/
def goesP (p s : Int) : Bool := if p == 1 then s == 0 else (p == 2 || p == 3) && isDrawB s
def handK (s h d : Int) : KeyV := rightK ⟨3, s, h, d⟩
/-- What the Fin of an answer is, and whether it can be locked. -/
def finV (h d p s : Int) : BoxV := lockV ⟨handK s h d, 0, intT p, false⟩
def finB (h d p s : Int) : Bool := boxOkB ⟨handK s h d, 0, intT p, false⟩
/-- Is it answered, and what then? -/
def answerB (h d p s : Int) : Bool := if p == 4 then isDrawB h else finB h d p s && goesP p s
def rawV (h d p s : Int) : AnsV := if p == 4 then ⟨h, 0, p, .zero⟩ else ⟨h, d, p, finV h d p s⟩
def answerV (h d p s : Int) : AnsV := if answerB h d p s then rawV h d p s else .zero
/-- Is its Fin opened by this secret, with its pick in it? -/
def opensB (a : AnsV) (s : Int) : Bool := openB a.f (handK s a.h a.d) 0 && (openT a.f (handK s a.h a.d) 0).toList == (intT a.p).toList
/-- Does it prove itself by this secret? -/
def provesB (a : AnsV) (s : Int) : Bool := ansOkB a && (a.p == 4 || (if a.p == 1 then opensB a 0 else isDrawB s && opensB a s))

theorem key_zero : keyOkB .zero = false := by simp [keyOkB, KeyV.zero, inB]
theorem hand_ok (s h d : Int) : keyOkB ⟨3, s, h, d⟩ = (inB s 0 100000 && (isDrawB h && isDrawB d)) := by simp [keyOkB, inB]
theorem hand_key {s h d : Int} (e : keyOkB (handK s h d) = true) : inB s 0 100000 = true ∧ isDrawB h = true ∧ isDrawB d = true ∧ handK s h d = ⟨3, s, h, d⟩ := by
  cases hk : keyOkB ⟨3, s, h, d⟩ with
  | false => rw [handK, rightK_no hk, key_zero] at e; cases e
  | true =>
    have h1 := rightK_yes hk
    rw [hand_ok, Bool.and_eq_true, Bool.and_eq_true] at hk
    exact ⟨hk.1, hk.2.1, hk.2.2, h1⟩
theorem fin_true {h d p s : Int} (e : finB h d p s = true) : inB s 0 100000 = true ∧ isDrawB h = true ∧ isDrawB d = true ∧ handK s h d = ⟨3, s, h, d⟩ ∧ finV h d p s = ⟨⟨3, s, h, d⟩, 0, intT p, false⟩ := by
  have e1 := e
  simp only [finB, boxOkB, Bool.and_eq_true] at e1
  obtain ⟨h1, h2, h3, h4⟩ := hand_key e1.1
  refine ⟨h1, h2, h3, h4, ?_⟩
  rw [finV, lockV, if_pos (show boxOkB ⟨handK s h d, 0, intT p, false⟩ = true from e), h4]
theorem fin_false {h d p s : Int} (e : finB h d p s = false) : finV h d p s = .zero := by
  have e1 : boxOkB ⟨handK s h d, 0, intT p, false⟩ = false := e
  rw [finV, lockV, e1]; rfl
theorem opens_true {a : AnsV} {s : Int} (e : opensB a s = true) : a.f.k = ⟨3, s, a.h, a.d⟩ ∧ a.f.t.toList = (intT a.p).toList ∧ inB s 0 100000 = true := by
  rw [opensB, Bool.and_eq_true, beq_iff_eq] at e
  obtain ⟨e1, e2⟩ := e
  obtain ⟨h1, _, _, h4⟩ := open_true e1
  have hb : keyOkB a.f.k = true := by
    simp only [openB, boxOkB, Bool.and_eq_true] at e1
    exact e1.1.1
  rw [h1] at hb
  obtain ⟨k1, _, _, k4⟩ := hand_key hb
  exact ⟨h1.trans k4, by rw [← h4]; exact e2, k1⟩
theorem opens_own {h d p s : Int} (e : finB h d p s = true) : opensB ⟨h, d, p, finV h d p s⟩ s = true := by
  obtain ⟨_, _, _, h4, h5⟩ := fin_true e
  have e1 : boxOkB ⟨⟨3, s, h, d⟩, 0, intT p, false⟩ = true := by rw [← h4]; exact e
  obtain ⟨o1, o2⟩ := open_own e1
  simp only [opensB, h4, h5, o1, o2, Bool.true_and, beq_self_eq_true]
/-- An answer is opened with its own numbers alone. -/
theorem opens_only {a b : AnsV} {s t : Int} (e : opensB a s = true) (hf : b.f = a.f) (hn : ¬ (t = s ∧ b.h = a.h ∧ b.d = a.d ∧ (intT b.p).toList = (intT a.p).toList)) : opensB b t = false := by
  rw [Bool.eq_false_iff]
  intro e2
  obtain ⟨h1, h2, _⟩ := opens_true e
  obtain ⟨k1, k2, _⟩ := opens_true e2
  rw [hf, h1] at k1
  rw [hf, h2] at k2
  injection k1 with _ q1 q2 q3
  exact hn ⟨q1.symm, q2.symm, q3.symm, k2.symm⟩
theorem pick_text {p : Int} (h0 : 1 ≤ p) (h1 : p ≤ 9) : (intT p).toList = [UInt8.ofNat (48 + p.toNat)] := by
  rw [ByteArray.toList_eq]
  have e : intT p = decT p.natAbs := by rw [intT, if_neg (by omega)]
  have e1 : p.natAbs = p.toNat := by omega
  have hz : p.toNat / 10 = 0 := by omega
  rw [e, e1]
  show decL p.toNat = _
  rw [decL_pos (by omega), digL_pos (by omega), hz, digL_zero, Nat.mod_eq_of_lt (by omega)]
  rfl
theorem pick_other {p q : Int} (h0 : 1 ≤ p) (h1 : p ≤ 9) (k0 : 1 ≤ q) (k1 : q ≤ 9) (hn : q ≠ p) : (intT q).toList ≠ (intT p).toList := by
  rw [pick_text h0 h1, pick_text k0 k1]
  intro e
  have e1 : UInt8.ofNat (48 + q.toNat) = UInt8.ofNat (48 + p.toNat) := by simpa using e
  have e2 := congrArg UInt8.toNat e1
  rw [UInt8.toNat_ofNat', UInt8.toNat_ofNat', Nat.mod_eq_of_lt (by omega), Nat.mod_eq_of_lt (by omega)] at e2
  omega

theorem proves_ok {a : AnsV} {s : Int} (e : provesB a s = true) : ansOkB a = true := by
  rw [provesB, Bool.and_eq_true] at e; exact e.1
theorem ok_ranges {a : AnsV} (e : ansOkB a = true) : (1 ≤ a.h ∧ a.h ≤ 100000) ∧ (1 ≤ a.p ∧ a.p ≤ 4) ∧ (a.p ≠ 4 → 1 ≤ a.d ∧ a.d ≤ 100000) := by
  simp only [ansOkB, Bool.and_eq_true] at e
  refine ⟨isDraw_iff.1 e.1, inB_true e.2.1, fun hp => ?_⟩
  have h1 := e.2.2
  rw [if_neg (by simpa using hp), Bool.and_eq_true] at h1
  exact isDraw_iff.1 h1.1
/-- The secret that an answer goes by. -/
def secB (a : AnsV) (s : Int) : Int := if a.p == 1 then 0 else s
theorem proves_opens {a : AnsV} {s : Int} (e : provesB a s = true) (hp : a.p ≠ 4) : opensB a (secB a s) = true ∧ (a.p ≠ 1 → 1 ≤ s ∧ s ≤ 100000) := by
  rw [provesB, Bool.and_eq_true] at e
  have h1 := e.2
  rw [bne_int hp, Bool.false_or] at h1
  by_cases h : a.p = 1
  · rw [beq_int h] at h1
    exact ⟨by rw [secB, beq_int h]; exact h1, fun h2 => absurd h h2⟩
  · rw [bne_int h] at h1
    simp only [Bool.false_eq_true, if_false, Bool.and_eq_true] at h1
    exact ⟨by rw [secB, bne_int h]; exact h1.2, fun _ => isDraw_iff.1 h1.1⟩
theorem proves_not {a : AnsV} {s : Int} (hp : a.p ≠ 4) (e : opensB a (secB a s) = false) : provesB a s = false := by
  rw [provesB, bne_int hp, Bool.false_or]
  by_cases h : a.p = 1
  · rw [secB, beq_int h] at e
    rw [beq_int h]
    simp only [if_true] at e ⊢
    rw [e, Bool.and_false]
  · rw [secB, bne_int h] at e
    rw [bne_int h]
    simp only [Bool.false_eq_true, if_false] at e ⊢
    rw [e, Bool.and_false, Bool.and_false]
/-- As the model has it. -/
theorem proves_parts {a : AnsV} {s : Int} (e : ansOkB a = true) (hp : a.p ≠ 4) : provesB a s = (openB a.f (handK (secB a s) a.h a.d) 0 && ((openT a.f (handK (secB a s) a.h a.d) 0).toList == (intT a.p).toList) && goesP a.p (secB a s)) := by
  have hr := (ok_ranges e).2.1
  rw [provesB, e, bne_int hp, Bool.true_and, Bool.false_or]
  by_cases h : a.p = 1
  · rw [secB, goesP, beq_int h]
    simp [opensB]
  · rw [secB, goesP, bne_int h]
    simp only [Bool.false_eq_true, if_false]
    have h2 : (a.p == 2 || a.p == 3) = true := by
      rw [Bool.or_eq_true, beq_iff_eq, beq_iff_eq]; omega
    rw [h2, Bool.true_and, Bool.and_comm]
    rfl
theorem other_hello {h d p s h' : Int} {f : BoxV} (e : provesB ⟨h, d, p, f⟩ s = true) (hp : p ≠ 4) (hn : h' ≠ h) : provesB ⟨h', d, p, f⟩ s = false :=
  proves_not hp (opens_only (proves_opens e hp).1 rfl fun x => hn x.2.1)
theorem other_draw {h d p s d' : Int} {f : BoxV} (e : provesB ⟨h, d, p, f⟩ s = true) (hp : p ≠ 4) (hn : d' ≠ d) : provesB ⟨h, d', p, f⟩ s = false :=
  proves_not hp (opens_only (proves_opens e hp).1 rfl fun x => hn x.2.2.1)
theorem other_pick {h d p s p' : Int} {f : BoxV} (e : provesB ⟨h, d, p, f⟩ s = true) (hp : p ≠ 4) (h0 : 1 ≤ p') (h1 : p' ≤ 3) (hn : p' ≠ p) : provesB ⟨h, d, p', f⟩ s = false := by
  have hr := (ok_ranges (proves_ok e)).2.1
  dsimp only at hr
  exact proves_not (by dsimp only; omega) (opens_only (proves_opens e hp).1 rfl fun x => pick_other hr.1 (by omega) h0 (by omega) hn x.2.2.2)
theorem other_secret {a : AnsV} {s s' : Int} (e : provesB a s = true) (hp : a.p ≠ 4) (h1 : a.p ≠ 1) (hn : s' ≠ s) : provesB a s' = false := by
  refine proves_not hp (opens_only (proves_opens e hp).1 rfl fun x => hn ?_)
  have h2 := x.1
  rw [secB, secB, bne_int h1] at h2
  exact h2
/-- What is answered proves itself by the secret that it was locked by, and nothing else is answered. -/
theorem raw_proves (h d p s : Int) : provesB (rawV h d p s) s = answerB h d p s := by
  by_cases hp : p = 4
  · subst hp
    cases hd : isDrawB h <;> simp [provesB, rawV, answerB, ansOkB, inB, BoxV.isZ, BoxV.zero, KeyV.zero, hd, ByteArray.toList_eq]
  · rw [answerB, rawV, bne_int hp]
    simp only [Bool.false_eq_true, if_false]
    cases hf : finB h d p s with
    | false =>
      rw [fin_false hf, Bool.false_and]
      rw [provesB, ansOkB, bne_int hp]
      have h0 : boxOkB .zero = false := by simp [boxOkB, BoxV.zero, key_zero]
      simp [h0]
    | true =>
      obtain ⟨_, hh, hd, _, hv⟩ := fin_true hf
      have ho := opens_own hf
      have hb : boxOkB (finV h d p s) = true := by rw [finV, lockV, if_pos (show boxOkB ⟨handK s h d, 0, intT p, false⟩ = true from hf)]; exact hf
      have hok : ansOkB ⟨h, d, p, finV h d p s⟩ = inB p 1 4 := by
        rw [ansOkB]; dsimp only; rw [hh, bne_int hp, hd, hb]; simp
      rw [Bool.true_and, provesB, hok]
      dsimp only
      rw [bne_int hp, Bool.false_or, goesP]
      by_cases h1 : p = 1
      · subst h1
        have hi : inB (1 : Int) 1 4 = true := by simp [inB]
        rw [hi, Bool.true_and]
        simp only [beq_self_eq_true, if_true]
        by_cases hs : s = 0
        · subst hs; rw [ho]; simp
        · rw [bne_int hs]
          exact opens_only ho rfl fun x => hs x.1.symm
      · rw [bne_int h1]
        simp only [Bool.false_eq_true, if_false]
        rw [ho, Bool.and_true]
        by_cases h2 : p = 2
        · subst h2; simp [inB]
        · by_cases h3 : p = 3
          · subst h3; simp [inB]
          · have hi : inB p 1 4 = false := inB_no (by omega)
            rw [hi, bne_int h2, bne_int h3]; rfl
theorem answer_yes {h d p s : Int} (e : answerB h d p s = true) : answerV h d p s = rawV h d p s := by rw [answerV, if_pos e]
theorem answer_no {h d p s : Int} (e : answerB h d p s = false) : answerV h d p s = .zero := by rw [answerV, e]; rfl
theorem raw_ok {h d p s : Int} (e : answerB h d p s = true) : ansOkB (rawV h d p s) = true := proves_ok ((raw_proves h d p s).trans e)
theorem raw_fields (h d p s : Int) : (rawV h d p s).h = h ∧ (rawV h d p s).p = p := by
  unfold rawV
  split <;> exact ⟨rfl, rfl⟩
theorem answer_pick (h d p s : Int) : (answerV h d p s).p = p ∨ (answerV h d p s).p = 0 := by
  cases e : answerB h d p s with
  | false => rw [answer_no e]; exact .inr rfl
  | true => rw [answer_yes e]; exact .inl (raw_fields h d p s).2

set_option maxHeartbeats 4000000 in
theorem eq_ans_self (ah ad ap xu xs xh xa xn : Int) (xt : ByteArray) (xp : Bool) (w : World) : (Op.equalIn 10000 82 (.agg #[.int .i64 ah, .int .i64 ad, .int .i64 ap, .int .i64 xu, .int .i64 xs, .int .i64 xh, .int .i64 xa, .int .i64 xn, .string xt, .bool xp]) (.agg #[.int .i64 ah, .int .i64 ad, .int .i64 ap, .int .i64 xu, .int .i64 xs, .int .i64 xh, .int .i64 xa, .int .i64 xn, .string xt, .bool xp])).run Try.prog w = .ok true w := by
  simp [go_sem]
set_option maxHeartbeats 8000000 in
theorem eq_ans_again (ah ad ap xu xs xh xa xn : Int) (xt : ByteArray) (xp : Bool) (w : World) : (Op.equalIn 10000 82 (.agg #[.int .i64 ah, .int .i64 ad, .int .i64 ap, .int .i64 xu, .int .i64 xs, .int .i64 xh, .int .i64 xa, .int .i64 xn, .string xt, .bool xp]) (.agg #[.int .i64 ah, .int .i64 0, .int .i64 ap, .int .i64 0, .int .i64 0, .int .i64 0, .int .i64 0, .int .i64 0, .string ⟨#[]⟩, .bool false])).run Try.prog w = .ok (ad == 0 && BoxV.isZ ⟨⟨xu, xs, xh, xa⟩, xn, xt, xp⟩) w := by
  unfold BoxV.isZ
  dsimp only
  cases h0 : ad == 0
  · simp [go_sem, h0]
  cases h1 : xu == 0
  · simp [go_sem, h0, h1]
  cases h2 : xs == 0
  · simp [go_sem, h0, h1, h2]
  cases h3 : xh == 0
  · simp [go_sem, h0, h1, h2, h3]
  cases h4 : xa == 0
  · simp [go_sem, h0, h1, h2, h3, h4]
  cases h5 : xn == 0
  · simp [go_sem, h0, h1, h2, h3, h4, h5]
  cases h6 : xt.toList.isEmpty
  · simp [go_sem, h0, h1, h2, h3, h4, h5, h6]
  cases xp
  rotate_left
  · simp [go_sem, h0, h1, h2, h3, h4, h5, h6]
  simp [go_sem, h0, h1, h2, h3, h4, h5, h6]

end Go.Proofs.Ytakhjdodljhfmaa.Tx
namespace Go.Proofs.Ytakhjdodljhfmaa.Tx

/-- A word that was heard. -/
structure WordV where
  t : ByteArray
  e : Bool
def WordV.zero : WordV := ⟨⟨#[]⟩, false⟩
def WordV.cells (q : WordV) : List Value := [.string q.t, .bool q.e]
def WordV.val (q : WordV) : Value := .agg q.cells.toArray
instance : Cells WordV := ⟨2, by decide, WordV.cells, fun _ => rfl, fun a v hv => by
  simp only [WordV.cells, List.mem_cons, List.not_mem_nil, or_false] at hv
  rcases hv with rfl | rfl <;> rfl⟩
theorem word_at {w : World} {g o : Nat} {q : WordV} (h : At w g o q) : w.cell? ⟨g, o, none⟩ = some (.string q.t) ∧ w.cell? ⟨g, o + 1, none⟩ = some (.bool q.e) := ⟨h 0 _ rfl, h 1 _ rfl⟩
theorem lies_word {w : World} {b off k : Nat} {l : List WordV} {q : WordV} (h : Lies w b off l) (hk : l[k]? = some q) : At w b (off + k * 2) q := h.2 k q hk

/-- A seat's numbers and rows; its log is a list of words beside it. -/
structure SeatV where
  st : Int
  h : Int
  d : Int
  p : Int
  e : RowV
  f : RowV
def SeatV.zero : SeatV := ⟨0, 0, 0, 0, .zero, .zero⟩
def SeatV.front (s : SeatV) : List Value := .int .i64 s.st :: .int .i64 s.h :: .int .i64 s.d :: .int .i64 s.p :: (s.e.cells ++ s.f.cells)
def SeatV.cells (s : SeatV) (A : Option Addr) (n cap : Nat) : List Value := s.front ++ [.slice A n cap]
def SeatV.val (s : SeatV) (A : Option Addr) (n cap : Nat) : Value := .agg (s.cells A n cap).toArray
def RowV.isZ (r : RowV) : Bool := r.k.u == 0 && (r.k.s == 0 && (r.k.h == 0 && (r.k.a == 0 && r.no == 0)))
def forthK (s h d : Int) : KeyV := rightK ⟨4, s, h, d⟩
def earlyK (s h : Int) : KeyV := rightK ⟨1, s, h, 0⟩
/-- Is it right (with so many words heard)? -/
def seatOkB (s : SeatV) (n : Nat) : Bool :=
  (s.st == 1 || s.st == 2) && (isDrawB s.h && (isDrawB s.d && (inB s.p 1 3 && (rowOkB s.e && (rowOkB s.f && (decide (n ≤ 60) &&
    (!s.f.k.same .zero && (s.f.k.same (forthK s.f.k.s s.h s.d) && (((s.f.k.s == 0) == (s.p == 1)) &&
      (if s.st == 1 && s.p == 3 then s.e.k.same (earlyK s.f.k.s s.h) else s.e.isZ))))))))))
/-- A new seat. -/
def newSeatRaw (h d p s : Int) : SeatV := ⟨1, h, d, p, if p == 3 then ⟨earlyK s h, 0⟩ else .zero, ⟨forthK s h d, 0⟩⟩
def newSeatB (h d p s : Int) : Bool := goesP p s && seatOkB (newSeatRaw h d p s) 0
def newSeatV (h d p s : Int) : SeatV := if newSeatB h d p s then newSeatRaw h d p s else .zero

end Go.Proofs.Ytakhjdodljhfmaa.Tx

/-
  What the program reads out of a seal's text, and that it is what the model reads: plain facts; and what numberOf answers. Condition: at most 2^48 bytes; the library's two errors lie where its text lays them.
-/
import Derived.Test.YtoffdlokndngeaaGreatDoorImpl6c
import Derived.Shelf.Strconv.ErrVarParseInt
namespace Go.Proofs.YtoffdlokndngeaaGreatDoor.Tx
open Go.RowKit

/-- The number that the library reads. -/
def numE (s : ByteArray) : Option Int := match Lib.parseIntB 64 s.data.toList with | .ok v => some v | _ => none
/-- What the program makes of a seal. -/
def progO (inn : Int) (b : BoxV) : Option TokV :=
  if openB b (rightK ⟨6, inn, 0, 0⟩) 0 = true then
    match splitT 45 b.t with
    | [p0, p1, p2, p3] =>
      match numE p0, numE p1, numE p2, numE p3 with
      | some n0, some n1, some n2, some n3 => if (tokOkB ⟨n0, n1, n2, n3, b⟩ && sealedB ⟨n0, n1, n2, n3, b⟩) = true then some ⟨n0, n1, n2, n3, b⟩ else none
      | _, _, _, _ => none
    | _ => none
  else none

theorem digN_le : ∀ (l : List UInt8) (n m : Nat), digN n l = some m → n ≤ m
  | [], n, m, h => by simp [digN] at h; omega
  | x :: r, n, m, h => by
    unfold digN at h
    split at h
    · have := digN_le r _ m h; omega
    · cases h
theorem parse_dig (M : Nat) : ∀ (l : List UInt8) (n m : Nat), digN n l = some m → m < 1844674407370955162 → m ≤ M → Lib.parseUintM M n l = .ok m
  | [], n, m, h, _, _ => by simp [digN] at h; subst h; rfl
  | x :: r, n, m, h, h1, h2 => by
    unfold digN at h
    split at h
    · rename_i hx
      have hle := digN_le r _ m h
      rw [Lib.parseUintM, if_pos hx, if_neg (by omega), if_neg (by omega)]
      exact parse_dig M r _ m h h1 h2
    · cases h
theorem numE_int {n : Int} (h0 : 0 ≤ n) (h1 : n ≤ 999999999) : numE (intT n) = some n := by
  obtain ⟨k, rfl⟩ := Int.eq_ofNat_of_zero_le h0
  have e : (intT (k : Int)).data.toList = decL k := by rw [intT, if_neg (by omega)]; rfl
  have hd : digN 0 (decL k) = some k := by
    by_cases hk : k = 0
    · subst hk; rfl
    · rw [decL_pos (by omega)]; exact digN_digL k
  obtain ⟨c, r, hc⟩ : ∃ c r, decL k = c :: r := by
    cases hl : decL k with
    | nil => have := (decL_len (k := k) (by omega)).1; rw [hl] at this; simp at this
    | cons c r => exact ⟨c, r, rfl⟩
  have hm := decL_mem k c (by rw [hc]; exact List.mem_cons_self)
  unfold numE
  rw [e, hc, Lib.parseIntB]
  have h2 : Lib.parseUintB 64 (if c.toNat = 43 ∨ c.toNat = 45 then r else c :: r) = .ok k := by
    rw [if_neg (by omega), Lib.parseUintB, if_neg (by simp), ← hc]
    exact parse_dig _ _ 0 k hd (by omega) (by omega)
  rw [h2]
  have h3 : ¬ c.toNat = 45 := by omega
  simp only [h3, not_false_eq_true, true_and, false_and, if_false]
  rw [if_neg (by omega)]
theorem read_back {s : ByteArray} {n : Int} (h : readT s = some n) (h0 : 0 ≤ n) : s = intT n ∧ n ≤ 999999999 := by
  unfold readT at h
  split at h
  · rename_i hl
    cases hd : digN 0 (restB s.data.toList) with
    | none => rw [hd] at h; cases h
    | some m =>
      rw [hd, Option.bind_some] at h
      split at h
      · cases h
      · rename_i hz
        have hne : restB s.data.toList ≠ [] := by intro e; rw [e] at hl; simp at hl
        have hb := dig_lt _ _ _ hd
        have hp : 10 ^ (restB s.data.toList).length ≤ 10 ^ 9 := Nat.pow_le_pow_right (by omega) hl.2
        have hm9 : m ≤ 999999999 := by omega
        cases hn : negB s.data.toList with
        | true =>
          rw [hn] at h hz
          simp only [if_true, Option.some.injEq] at h
          have hm : m = 0 := by omega
          subst hm
          have hz2 : (restB s.data.toList).head? ≠ some 48 := fun e => hz ⟨e, .inl rfl⟩
          have hr := (dig_back _ _ 0 rfl hne hd (.inr fun c hc e => hz2 (by rw [hc]; exact congrArg some (UInt8.toNat_inj.1 e)))).1
          rw [hr] at hz2
          exact absurd rfl hz2
        | false =>
          rw [hn] at h hz
          simp only [Bool.false_eq_true, if_false, Option.some.injEq, false_or] at h hz
          have hr : restB s.data.toList = s.data.toList := by rw [rest_at hn]; simp
          rw [hr] at hd hne hz
          have hz2 : s.data.toList.length = 1 ∨ ∀ c, s.data.toList.head? = some c → c.toNat ≠ 48 := by
            by_cases h1 : s.data.toList.length = 1
            · exact .inl h1
            · refine .inr fun c hc e => hz ⟨by rw [hc]; exact congrArg some (UInt8.toNat_inj.1 e), ?_⟩
              have := List.length_pos_iff.2 hne
              omega
          have hs := (dig_back _ _ m rfl hne hd hz2).1
          subst h
          refine ⟨?_, by omega⟩
          rw [← of_bytes s, hs, intT, if_neg (by omega)]
          exact of_bytes (decT m)
  · cases h
theorem join_split (c : UInt8) : ∀ l : List UInt8, (joinT ⟨#[c]⟩ ((cutB c l).map fun l => ⟨l.toArray⟩)).data.toList = l
  | [] => by simp [cutB, joinT, tailsT]
  | x :: r => by
    have ih := join_split c r
    obtain ⟨a, t, e⟩ := cutB_some c r
    rw [e] at ih
    simp only [List.map_cons, joinT, bytes_app] at ih
    unfold cutB
    split
    · rename_i hx
      rw [e]
      simp only [List.map_cons, joinT, tailsT, bytes_app]
      rw [ih, hx]; rfl
    · rw [e]
      simp only [List.map_cons, joinT, bytes_app]
      rw [List.cons_append, ih]
theorem split_join (s : ByteArray) : joinT ⟨#[45]⟩ (splitT 45 s) = s := by
  rw [← of_bytes (joinT ⟨#[45]⟩ (splitT 45 s)), splitT, join_split, of_bytes]
theorem sealed_eq {t : TokV} : sealedB t = true ↔ t.x.t = tokTxt t.s t.b t.l t.m := by
  unfold sealedB
  rw [beq_iff_eq]
  constructor
  · intro h
    have h' : t.x.t.data.toList = (tokTxt t.s t.b t.l t.m).data.toList := by simpa [ByteArray.toList_eq] using h
    rw [← of_bytes t.x.t, h', of_bytes]
  · intro h; rw [h]
theorem reads_four {p0 p1 p2 p3 : ByteArray} {ns : List Int} (h : readsT [p0, p1, p2, p3] = some ns) : ∃ n0 n1 n2 n3, ns = [n0, n1, n2, n3] ∧ readT p0 = some n0 ∧ readT p1 = some n1 ∧ readT p2 = some n2 ∧ readT p3 = some n3 := by
  simp only [readsT] at h
  cases h0 : readT p0 with
  | none => simp [h0] at h
  | some n0 =>
    cases h1 : readT p1 with
    | none => simp [h0, h1] at h
    | some n1 =>
      cases h2 : readT p2 with
      | none => simp [h0, h1, h2] at h
      | some n2 =>
        cases h3 : readT p3 with
        | none => simp [h0, h1, h2, h3] at h
        | some n3 => simp [h0, h1, h2, h3] at h; exact ⟨n0, n1, n2, n3, h.symm, rfl, rfl, rfl, rfl⟩
theorem prog_model (inn : Int) (b : BoxV) : progO inn b = unsealO inn b := by
  unfold progO unsealO
  by_cases ho : openB b (rightK ⟨6, inn, 0, 0⟩) 0 = true
  · rw [if_pos ho]
    by_cases hl : (splitT 45 b.t).length = 4
    · rw [if_pos ⟨ho, hl⟩]
      obtain ⟨p0, p1, p2, p3, hp⟩ : ∃ p0 p1 p2 p3, splitT 45 b.t = [p0, p1, p2, p3] := by
        rcases hs : splitT 45 b.t with _ | ⟨p0, _ | ⟨p1, _ | ⟨p2, _ | ⟨p3, _ | ⟨p4, r⟩⟩⟩⟩⟩ <;> rw [hs] at hl <;> simp at hl
        exact ⟨p0, p1, p2, p3, rfl⟩
      have hj := split_join b.t
      rw [hp] at hj ⊢
      -- the model's way leads to the program's
      have back : ∀ t, ((readsT [p0, p1, p2, p3]).bind fun ns => if tokOkB (tokOf ns b) = true then some (tokOf ns b) else none) = some t → ∃ n0 n1 n2 n3, t = ⟨n0, n1, n2, n3, b⟩ ∧ numE p0 = some n0 ∧ numE p1 = some n1 ∧ numE p2 = some n2 ∧ numE p3 = some n3 ∧ tokOkB t = true ∧ sealedB t = true := by
        intro t ht
        cases hr : readsT [p0, p1, p2, p3] with
        | none => rw [hr] at ht; cases ht
        | some ns =>
          rw [hr, Option.bind_some] at ht
          obtain ⟨n0, n1, n2, n3, rfl, e0, e1, e2, e3⟩ := reads_four hr
          split at ht
          · rename_i hok
            obtain rfl := Option.some.inj ht
            have hrng := tok_range hok
            obtain ⟨a0, b0⟩ := read_back e0 (by have := hrng.1.1; simp only [tokOf] at this; simp at this; omega)
            obtain ⟨a1, b1⟩ := read_back e1 (by have := hrng.2.1.1; simp only [tokOf] at this; simp at this; omega)
            obtain ⟨a2, b2⟩ := read_back e2 (by have := hrng.2.2.1.1; simp only [tokOf] at this; simp at this; omega)
            obtain ⟨a3, b3⟩ := read_back e3 (by have := hrng.2.2.2.1.1; simp only [tokOf] at this; simp at this; omega)
            refine ⟨n0, n1, n2, n3, rfl, ?_, ?_, ?_, ?_, hok, ?_⟩
            · rw [a0]; exact numE_int (by have := hrng.1.1; simp only [tokOf] at this; simp at this; omega) b0
            · rw [a1]; exact numE_int (by have := hrng.2.1.1; simp only [tokOf] at this; simp at this; omega) b1
            · rw [a2]; exact numE_int (by have := hrng.2.2.1.1; simp only [tokOf] at this; simp at this; omega) b2
            · rw [a3]; exact numE_int (by have := hrng.2.2.2.1.1; simp only [tokOf] at this; simp at this; omega) b3
            · rw [sealed_eq]
              show b.t = joinT ⟨#[45]⟩ [intT n0, intT n1, intT n2, intT n3]
              rw [← a0, ← a1, ← a2, ← a3, hj]
          · cases ht
      -- the program's way leads to the model's
      have forth : ∀ n0 n1 n2 n3, (tokOkB ⟨n0, n1, n2, n3, b⟩ && sealedB ⟨n0, n1, n2, n3, b⟩) = true → readsT [p0, p1, p2, p3] = some [n0, n1, n2, n3] := by
        intro n0 n1 n2 n3 h
        rw [Bool.and_eq_true] at h
        obtain ⟨hok, hse⟩ := h
        have hrng := tok_range hok
        dsimp only at hrng
        have ht : b.t = tokTxt n0 n1 n2 n3 := sealed_eq.1 hse
        have hs := split_txt (s := n0) (b := n1) (l := n2) (m := n3) (by omega) (by omega) (by omega) (by omega)
        rw [← ht, hp] at hs
        rw [hs]
        simp [readsT, read_int (n := n0) (by omega) (by omega), read_int (n := n1) (by omega) (by omega), read_int (n := n2) (by omega) (by omega), read_int (n := n3) (by omega) (by omega)]
      cases hm : ((readsT [p0, p1, p2, p3]).bind fun ns => if tokOkB (tokOf ns b) = true then some (tokOf ns b) else none) with
      | some t =>
        obtain ⟨n0, n1, n2, n3, rfl, e0, e1, e2, e3, h1, h2⟩ := back t hm
        simp only [e0, e1, e2, e3, h1, h2, Bool.and_true, if_true]
      | none =>
        cases e0 : numE p0 with
        | none => simp [e0]
        | some n0 =>
          cases e1 : numE p1 with
          | none => simp [e0, e1]
          | some n1 =>
            cases e2 : numE p2 with
            | none => simp [e0, e1, e2]
            | some n2 =>
              cases e3 : numE p3 with
              | none => simp [e0, e1, e2, e3]
              | some n3 =>
                simp only [e0, e1, e2, e3]
                cases hk : (tokOkB ⟨n0, n1, n2, n3, b⟩ && sealedB ⟨n0, n1, n2, n3, b⟩) with
                | false => rfl
                | true =>
                  have hr := forth n0 n1 n2 n3 hk
                  rw [hr, Option.bind_some] at hm
                  rw [Bool.and_eq_true] at hk
                  have hk1 : tokOkB (tokOf [n0, n1, n2, n3] b) = true := hk.1
                  rw [if_pos hk1] at hm
                  cases hm
    · rw [if_neg (fun h => hl h.2)]
      rcases hs : splitT 45 b.t with _ | ⟨p0, _ | ⟨p1, _ | ⟨p2, _ | ⟨p3, _ | ⟨p4, r⟩⟩⟩⟩⟩
      · rfl
      · rfl
      · rfl
      · rfl
      · rw [hs] at hl; simp at hl
      · rfl
  · rw [if_neg ho, if_neg (fun h => ho h.1)]

end Go.Proofs.YtoffdlokndngeaaGreatDoor.Tx

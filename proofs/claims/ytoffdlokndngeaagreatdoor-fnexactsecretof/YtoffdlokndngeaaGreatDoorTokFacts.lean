/-
  Plain facts on tokens: what is read of what was written is the number again; what is unsealed of a new token's seal is that token, by its inn alone. Nothing of the program is named here. No conditions.
-/
import Derived.Test.YtoffdlokndngeaaGreatDoorUnseal
namespace Go.Proofs.YtoffdlokndngeaaGreatDoor.Tx

theorem decL_neg (k : Nat) : negB (decL k) = false := by
  rw [negB]
  cases h : (decL k).head? with
  | none => rfl
  | some x =>
    have hm : x ∈ decL k := List.mem_of_mem_head? (by rw [h]; rfl)
    have := decL_mem k x hm
    have hx : x ≠ 45 := fun e => by rw [e] at this; revert this; decide
    simpa using hx
theorem read_dec {k : Nat} (h : k ≤ 999999999) : readT (decT k) = some (k : Int) := by
  have hl := decL_len h
  by_cases h0 : k = 0
  · subst h0; rfl
  · refine read_pos (decL_neg k) (by have : (decT k).data.toList = decL k := rfl; rw [this]; omega) ?_ (.inl ?_)
    · show digN 0 (decL k) = some k
      rw [decL_pos (by omega)]; exact digN_digL k
    · show (decL k).head? ≠ some 48
      obtain ⟨x, r, e, hx⟩ := digL_head k (by omega)
      rw [decL_pos (by omega), e, List.head?_cons]
      intro c
      rw [Option.some.inj c] at hx
      exact hx rfl
theorem read_int {n : Int} (h0 : 0 ≤ n) (h1 : n ≤ 999999999) : readT (intT n) = some n := by
  obtain ⟨k, rfl⟩ := Int.eq_ofNat_of_zero_le h0
  rw [intT, if_neg (by omega), show ((k : Int)).natAbs = k by omega]
  exact read_dec (by omega)

theorem cut_none {c : UInt8} : ∀ {l : List UInt8}, (∀ x ∈ l, x ≠ c) → cutB c l = [l]
  | [], _ => rfl
  | x :: r, h => by rw [cutB, if_neg (h x List.mem_cons_self), cut_none fun y hy => h y (List.mem_cons_of_mem _ hy)]
theorem cut_at {c : UInt8} : ∀ {l : List UInt8} (b : List UInt8), (∀ x ∈ l, x ≠ c) → cutB c (l ++ c :: b) = l :: cutB c b
  | [], b, _ => by simp [cutB]
  | x :: r, b, h => by rw [List.cons_append, cutB, if_neg (h x List.mem_cons_self), cut_at b fun y hy => h y (List.mem_cons_of_mem _ hy)]
theorem int_no {n : Int} (h : 0 ≤ n) : ∀ x ∈ (intT n).data.toList, x ≠ 45 := by
  obtain ⟨k, rfl⟩ := Int.eq_ofNat_of_zero_le h
  rw [intT, if_neg (by omega)]
  intro x hx e
  have := decL_mem _ x hx
  rw [e] at this
  revert this
  decide
theorem of_bytes (s : ByteArray) : (⟨s.data.toList.toArray⟩ : ByteArray) = s := by cases s; simp
theorem split_txt {s b l m : Int} (h0 : 0 ≤ s) (h1 : 0 ≤ b) (h2 : 0 ≤ l) (h3 : 0 ≤ m) : splitT 45 (tokTxt s b l m) = [intT s, intT b, intT l, intT m] := by
  have e : (tokTxt s b l m).data.toList = (intT s).data.toList ++ 45 :: ((intT b).data.toList ++ 45 :: ((intT l).data.toList ++ 45 :: (intT m).data.toList)) := by
    show (intT s ++ (⟨#[45]⟩ ++ (intT b ++ (⟨#[45]⟩ ++ (intT l ++ (⟨#[45]⟩ ++ (intT m ++ ⟨#[]⟩))))))).data.toList = _
    simp only [bytes_app]
    simp
  rw [splitT, e, cut_at _ (int_no h0), cut_at _ (int_no h1), cut_at _ (int_no h2), cut_none (int_no h3)]
  simp only [List.map_cons, List.map_nil, of_bytes]

/-- What a new token is. -/
theorem newTok_true {inn s b l m : Int} (h : newTokB inn s b l m = true) : boxOkB (sealBox inn s b l m) = true ∧ lockV (sealBox inn s b l m) = sealBox inn s b l m ∧ newTokV inn s b l m = ⟨s, b, l, m, sealBox inn s b l m⟩ ∧ tokOkB ⟨s, b, l, m, sealBox inn s b l m⟩ = true ∧ rightK ⟨6, inn, 0, 0⟩ = ⟨6, inn, 0, 0⟩ := by
  have h0 := h
  simp only [newTokB, Bool.and_eq_true] at h
  have e : lockV (sealBox inn s b l m) = sealBox inn s b l m := by simp [lockV, h.1]
  have hk : keyOkB (rightK ⟨6, inn, 0, 0⟩) = true := by
    have := h.1
    simp only [boxOkB, Bool.and_eq_true] at this
    exact this.1
  refine ⟨h.1, e, by rw [newTokV, h0, if_pos rfl, e], by rw [← e]; exact h.2, ?_⟩
  unfold rightK at hk ⊢
  split
  · rfl
  · rename_i hn; rw [if_neg hn] at hk; exact absurd hk (by decide)
theorem newTok_false {inn s b l m : Int} (h : newTokB inn s b l m = false) : newTokV inn s b l m = .zero := by rw [newTokV, h]; rfl
/-- It is unsealed by its inn, as it was. -/
theorem unseal_new {inn s b l m : Int} (h : newTokB inn s b l m = true) : unsealO inn (newTokV inn s b l m).x = some (newTokV inn s b l m) := by
  obtain ⟨h1, _, h3, h4, _⟩ := newTok_true h
  obtain ⟨⟨a0, a1⟩, ⟨b0, b1⟩, ⟨c0, c1⟩, ⟨d0, d1⟩, _⟩ := tok_range h4
  dsimp only at a0 a1 b0 b1 c0 c1 d0 d1
  rw [h3]
  have es : splitT 45 (sealBox inn s b l m).t = [intT s, intT b, intT l, intT m] := split_txt (by omega) b0 (by omega) d0
  have er : readsT [intT s, intT b, intT l, intT m] = some [s, b, l, m] := by
    simp [readsT, read_int (n := s) (by omega) (by omega), read_int (n := b) (by omega) (by omega), read_int (n := l) (by omega) (by omega), read_int (n := m) (by omega) (by omega)]
  rw [unsealO, es, if_pos ⟨(open_own h1).1, rfl⟩, er, Option.bind_some]
  exact if_pos h4
/-- .. by no other one .. -/
theorem unseal_other {inn inn' s b l m : Int} (h : newTokB inn s b l m = true) (hn : inn ≠ inn') : unsealO inn' (newTokV inn s b l m).x = none := by
  obtain ⟨_, _, h3, _, h5⟩ := newTok_true h
  rw [h3, unsealO, if_neg]
  rintro ⟨ho, _⟩
  have e := (open_true ho).1
  have e1 : (⟨6, inn, 0, 0⟩ : KeyV) = rightK ⟨6, inn', 0, 0⟩ := by rw [← h5]; exact e
  unfold rightK at e1
  split at e1
  · injection e1 with _ e2; exact hn e2
  · injection e1 with e2; revert e2; decide
/-- .. and not when its seal is spoilt. -/
theorem unseal_spoilt (inn : Int) (b : BoxV) : unsealO inn b.spoil = none := by
  rw [unsealO, if_neg]
  rintro ⟨ho, _⟩
  rw [open_spoilt] at ho
  cases ho
/-- What is unsealed is right, and has that seal. -/
theorem unseal_right {inn : Int} {b : BoxV} {t : TokV} (h : unsealO inn b = some t) : tokOkB t = true ∧ t.x = b := by
  unfold unsealO at h
  split at h
  · cases hr : readsT (splitT 45 b.t) with
    | none => rw [hr] at h; cases h
    | some ns =>
      rw [hr, Option.bind_some] at h
      split at h
      · rename_i hok; rw [← Option.some.inj h]; exact ⟨hok, rfl⟩
      · cases h
  · cases h

end Go.Proofs.YtoffdlokndngeaaGreatDoor.Tx

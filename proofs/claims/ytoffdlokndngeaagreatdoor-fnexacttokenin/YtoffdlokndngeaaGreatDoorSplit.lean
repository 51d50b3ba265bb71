/-
  What l1Split of the model answers: a string's parts. Condition: at most 1048576 bytes.
-/
import Derived.Test.YtoffdlokndngeaaGreatDoorLists
import Derived.Test.YtoffdlokndngeaaGreatDoorOwn
namespace Go.Proofs.YtoffdlokndngeaaGreatDoor.Tx
open Go.RowKit

/-- The parts of a row of bytes, cut at c. -/
def cutB (c : UInt8) : List UInt8 → List (List UInt8)
  | [] => [[]]
  | x :: r => if x = c then [] :: cutB c r else match cutB c r with
    | [] => [[x]]
    | h :: t => (x :: h) :: t
theorem cutB_some (c : UInt8) : ∀ l, ∃ h t, cutB c l = h :: t
  | [] => ⟨[], [], rfl⟩
  | x :: r => by
    obtain ⟨h, t, e⟩ := cutB_some c r
    unfold cutB
    split
    · exact ⟨_, _, rfl⟩
    · rw [e]; exact ⟨_, _, rfl⟩
/-- A part begun, ahead of the parts of the rest. -/
def glue (p : List UInt8) : List (List UInt8) → List (List UInt8)
  | [] => [p]
  | h :: t => (p ++ h) :: t
theorem glue_nil (c : UInt8) (l : List UInt8) : glue [] (cutB c l) = cutB c l := by
  obtain ⟨h, t, e⟩ := cutB_some c l
  rw [e]; rfl
theorem glue_here (c : UInt8) (p r : List UInt8) : glue p (cutB c (c :: r)) = p :: cutB c r := by
  simp [cutB, glue]
theorem glue_on {c x : UInt8} (h : x ≠ c) (p r : List UInt8) : glue p (cutB c (x :: r)) = glue (p ++ [x]) (cutB c r) := by
  obtain ⟨a, t, e⟩ := cutB_some c r
  simp [cutB, h, glue, e]
theorem glue_end (c : UInt8) (p : List UInt8) : glue p (cutB c []) = [p] := by simp [cutB, glue]
def splitT (c : UInt8) (s : ByteArray) : List ByteArray := (cutB c s.data.toList).map fun l => ⟨l.toArray⟩

theorem ext_bytes (s : ByteArray) (a b : Nat) : (s.extract a b).data.toList = (s.data.toList.drop a).take (b - a) := by
  rw [ByteArray.data_extract, Array.toList_extract, List.extract_eq_take_drop]
/-- What has been cut so far, and what is begun. -/
def SplitInv (c : UInt8) (s : ByteArray) (k fr : Nat) (out : List ByteArray) : Prop :=
  (k ≤ s.size ∧ cutB c s.data.toList = out.map (·.data.toList) ++ glue ((s.data.toList.drop fr).take (k - fr)) (cutB c (s.data.toList.drop k))) ∨ (k = s.size + 1 ∧ cutB c s.data.toList = out.map (·.data.toList))
theorem split_here {c : UInt8} {s : ByteArray} {k fr : Nat} {out : List ByteArray} (h : SplitInv c s k fr out) (hk : k < s.size) (hc : s[k] = c) : SplitInv c s (k + 1) (k + 1) (out ++ [s.extract fr k]) := by
  have hl : k < s.data.toList.length := by simpa using hk
  have hd : s.data.toList.drop k = c :: s.data.toList.drop (k + 1) := by rw [List.drop_eq_getElem_cons hl]; congr 1
  rcases h with ⟨_, h⟩ | ⟨h, _⟩
  · refine .inl ⟨by omega, ?_⟩
    rw [h, hd, glue_here, Nat.sub_self, List.take_zero, glue_nil, List.map_append, List.append_assoc]
    simp
  · omega
theorem split_on {c : UInt8} {s : ByteArray} {k fr : Nat} {out : List ByteArray} (h : SplitInv c s k fr out) (hk : k < s.size) (hf : fr ≤ k) (hc : s[k] ≠ c) : SplitInv c s (k + 1) fr out := by
  have hl : k < s.data.toList.length := by simpa using hk
  have hd : s.data.toList.drop k = s[k] :: s.data.toList.drop (k + 1) := by rw [List.drop_eq_getElem_cons hl]; congr 1
  rcases h with ⟨_, h⟩ | ⟨h, _⟩
  · refine .inl ⟨by omega, ?_⟩
    rw [h, hd, glue_on hc]
    congr 2
    have hf' : k - fr < (s.data.toList.drop fr).length := by rw [List.length_drop]; omega
    rw [show k + 1 - fr = k - fr + 1 by omega, List.take_succ_eq_append_getElem hf', List.getElem_drop]
    congr 2
    have : fr + (k - fr) = k := by omega
    simp only [this]
    rfl
  · omega
theorem split_end {c : UInt8} {s : ByteArray} {fr : Nat} {out : List ByteArray} (h : SplitInv c s s.size fr out) : SplitInv c s (s.size + 1) (s.size + 1) (out ++ [s.extract fr s.size]) := by
  rcases h with ⟨_, h⟩ | ⟨h, _⟩
  · refine .inr ⟨rfl, ?_⟩
    rw [h, show s.data.toList.drop s.size = [] from List.drop_of_length_le (by simp), glue_end, List.map_append]
    simp
  · omega
theorem split_done {c : UInt8} {s : ByteArray} {k fr : Nat} {out : List ByteArray} (h : SplitInv c s k fr out) (hk : s.size < k) : out = splitT c s := by
  rcases h with ⟨h, _⟩ | ⟨_, h⟩
  · omega
  · rw [splitT, h, List.map_map]
    have e : ((fun l : List UInt8 => (⟨l.toArray⟩ : ByteArray)) ∘ fun x : ByteArray => x.data.toList) = id := funext fun x => by cases x; simp
    rw [e, List.map_id]

set_option maxRecDepth 100000 in
set_option maxHeartbeats 4000000 in
theorem l1Split_any (s : ByteArray) (c : UInt8) (hs : s.size ≤ 1048576) (w : World) :
    Calls Tryz.prog 80 #[.string s, .int .u8 (c.toNat : Int)] w fun e w' => ∃ gb cb, e = .returned (.slice (some ⟨gb, 0, none⟩) (splitT c s).length cb) ∧ MadeG w' w.heap.size 9 1 (splitT c s).length ((splitT c s).map Value.string) gb cb ∧ Below w.heap.size w w' := by
  obtain ⟨i0, hi, hz0, hz1, hz2⟩ := info_parts infoString
  obtain ⟨C, hC⟩ : ∃ C, (c.toNat : Int) = C := ⟨_, rfl⟩
  rw [hC]
  have HC := Lib.hid hC
  clear hC
  go_enter Tryz.func80, Tryz.ntmps80
  go_wp2
  go_loopw [5, 6, 7] (fun v f i wr => ∃ (k fr : Nat) (out : List ByteArray) (gb cb : Nat), k ≤ s.size + 1 ∧ fr ≤ k ∧ i = .int .i64 k ∧ f = .int .i64 fr ∧ v = .slice (some ⟨gb, 0, none⟩) out.length cb ∧ out.length ≤ k ∧ SplitInv c s k fr out ∧
      MadeG wr w.heap.size 9 1 out.length (out.map Value.string) gb cb ∧ Below w.heap.size w wr) (fun _ _ i _ => s.size + 1 - (intOf i).toNat)
  case atStart => exact ⟨0, 0, [], w.heap.size, 0, by omega, Nat.le_refl _, rfl, rfl, rfl, Nat.le_refl _, .inl ⟨Nat.zero_le _, by simp [glue_nil]⟩, madeG_nil (heap1 w _) (Nat.le_refl _), (Below.refl _ w).alloc (Nat.le_refl _) _⟩
  case round =>
    obtain ⟨k, fr, out, gb, cb, hk, hf, rfl, rfl, rfl, hol, hI, hM, hB⟩ := hrel
    have HM := Lib.hid hM
    have HB := Lib.hid hB
    have HI := Lib.hid hI
    have hgb := hM.base
    have hsB := hB.size
    clear hM hB hI
    by_cases hlt : k < s.size
    · obtain ⟨x, hx⟩ : ∃ x, (s[k].toNat : Int) = x := ⟨_, rfl⟩
      have hle : (k : Int) ≤ (s.size : Int) := by omega
      have hne : ((k : Int) == (s.size : Int)) = false := by rw [beq_eq_false_iff_ne]; omega
      by_cases hc : s[k] = c
      · have hxe : (x == C) = true := by rw [← hx, hc, HC.out]; simp
        have hfk : (fr : Int) ≤ (k : Int) := by omega
        have HN := Lib.hid (split_here HI.out hlt hc)
        clear hc
        obtain ⟨p, hp⟩ : ∃ p, s.extract fr k = p := ⟨_, rfl⟩
        rw [hp] at HN
        go_wp2_with (at_builtin; refine wpList_append_own _ rfl _ _ 111 rfl w.heap.size 9 i0 (.string ByteArray.empty) 1 16 Tryz.underlying111 hi hz0 hz1 hz2 rfl (by decide) _ _ _ rfl (HM.out.own.alloc _) ⟨wr.heap.size, 0, none⟩ 1 1 [.string p] rfl rfl (cells_new wr [.string p] _) (by simp [Value.oneCell']) (by unfold maxLen; omega) (by omega) (by simp; omega) ?_; intro v' w3 hown' hgrow _; obtain ⟨gb', cb', rfl, hM'⟩ := madeG_of hown' (by omega); have HM' := Lib.hid hM'; have HGR := Lib.hid hgrow; clear hown' hgrow hM')
        go_roundw
        case rel => exact ⟨k + 1, k + 1, out ++ [p], gb', cb', by omega, Nat.le_refl _, by go_num, by go_num, by simp, by simp; omega, HN.out, by simpa using HM'.out, (HB.out.alloc HB.out.size _).grown HGR.out (by simp; omega) (by intro k' e; have e1 := Option.some.inj e; dsimp only at e1; omega)⟩
        case measure => simp [intOf]; omega
      · have hxe : (x == C) = false := by
          rw [beq_eq_false_iff_ne, ← hx, ← HC.out]
          intro e
          exact hc (UInt8.toNat_inj.1 (by omega))
        have HN := Lib.hid (split_on HI.out hlt hf hc)
        clear hc
        go_wp2
        go_roundw
        case rel => exact ⟨k + 1, fr, out, gb, cb, by omega, by omega, by go_num, rfl, rfl, by omega, HN.out, HM.out, HB.out⟩
        case measure => simp [intOf]; omega
    · by_cases hke : k = s.size
      · have hle : (k : Int) ≤ (s.size : Int) := by omega
        have hne : ((k : Int) == (s.size : Int)) = true := by rw [hke]; simp
        have hfk : (fr : Int) ≤ (k : Int) := by omega
        have HN : Hid (SplitInv c s (k + 1) (k + 1) (out ++ [s.extract fr k])) := by have := HI.out; rw [hke] at this ⊢; exact split_end this
        clear hke
        obtain ⟨p, hp⟩ : ∃ p, s.extract fr k = p := ⟨_, rfl⟩
        rw [hp] at HN
        go_wp2_with (at_builtin; refine wpList_append_own _ rfl _ _ 111 rfl w.heap.size 9 i0 (.string ByteArray.empty) 1 16 Tryz.underlying111 hi hz0 hz1 hz2 rfl (by decide) _ _ _ rfl (HM.out.own.alloc _) ⟨wr.heap.size, 0, none⟩ 1 1 [.string p] rfl rfl (cells_new wr [.string p] _) (by simp [Value.oneCell']) (by unfold maxLen; omega) (by omega) (by simp; omega) ?_; intro v' w3 hown' hgrow _; obtain ⟨gb', cb', rfl, hM'⟩ := madeG_of hown' (by omega); have HM' := Lib.hid hM'; have HGR := Lib.hid hgrow; clear hown' hgrow hM')
        go_roundw
        case rel => exact ⟨k + 1, k + 1, out ++ [p], gb', cb', by omega, Nat.le_refl _, by go_num, by go_num, by simp, by simp; omega, HN.out, by simpa using HM'.out, (HB.out.alloc HB.out.size _).grown HGR.out (by simp; omega) (by intro k' e; have e1 := Option.some.inj e; dsimp only at e1; omega)⟩
        case measure => simp [intOf]; omega
      · have hle : ¬ (k : Int) ≤ (s.size : Int) := by omega
        have HE := Lib.hid (split_done HI.out (by omega))
        go_wp2
        go_ret
        exact ⟨gb, cb, by rw [← HE.out]; rfl, by rw [← HE.out]; exact HM.out, HB.out⟩

end Go.Proofs.YtoffdlokndngeaaGreatDoor.Tx

/-
  What strings.Split at one byte and the program's numberOf answer. Conditions: at most 40 bytes; the library's variables lie as its text lays them.
-/
import Derived.Test.YtoffdlokndngeaaGreatDoorImpl6d
import Derived.Shelf.Strings.Split
import Derived.Lib.AtoiErrMem
namespace Go.Proofs.YtoffdlokndngeaaGreatDoor.Tx
open Go.RowKit

theorem var_on {w w' : World} {name : String} {cs : Array Value} (h : w.var? Tryz.prog name = some cs) (hb : Below w.heap.size w w') : w'.var? Tryz.prog name = some cs := by
  unfold World.var? at *
  cases hg : Tryz.prog.globalNamed name with
  | none => simp [hg] at h
  | some g =>
    simp only [hg, Option.bind_some] at h ⊢
    have hlt : g < w.heap.size := by
      rcases Nat.lt_or_ge g w.heap.size with h' | h'
      · exact h'
      · rw [Array.getElem?_eq_none h'] at h; simp at h
    rw [hb.block g hlt]
    exact h
theorem cell_keep {w w' : World} {g i : Nat} {v : Value} (h : w.cell? ⟨g, i, none⟩ = some v) (hb : Below w.heap.size w w') : w'.cell? ⟨g, i, none⟩ = some v := by
  unfold World.cell? at *
  dsimp only at *
  have hlt : g < w.heap.size := by
    rcases Nat.lt_or_ge g w.heap.size with h' | h'
    · exact h'
    · rw [Array.getElem?_eq_none h'] at h; simp at h
  rw [hb.block g hlt]
  exact h
/-- The library's variables that are read on the way. -/
structure Glob (w : World) : Prop where
  tab : Tab w
  syn : ∃ tp p, w.var? Tryz.prog "strconv.ErrSyntax" = some #[.iface tp p]
  rng : ∃ tp p, w.var? Tryz.prog "strconv.ErrRange" = some #[.iface tp p]
  mx : ∃ m, w.cell? ⟨0, 0, none⟩ = some (.int .i64 m)
theorem Glob.on {w w' : World} (h : Glob w) (b : Below w.heap.size w w') : Glob w' := by
  obtain ⟨h1, ⟨a, p, h2⟩, ⟨c, q, h3⟩, ⟨m, h4⟩⟩ := h
  exact ⟨h1.on b, ⟨a, p, var_on h2 b⟩, ⟨c, q, var_on h3 b⟩, ⟨m, cell_keep h4 b⟩⟩

theorem index_one (c : UInt8) : ∀ l : List UInt8, (Lib.index l [c] = -1 ∧ ∀ x ∈ l, x ≠ c) ∨ ∃ a r, l = a ++ c :: r ∧ (∀ x ∈ a, x ≠ c) ∧ Lib.index l [c] = a.length
  | [] => .inl ⟨rfl, by simp⟩
  | x :: l => by
    by_cases hx : x = c
    · subst hx
      exact .inr ⟨[], l, rfl, by simp, by
        have hp : ([x] : List UInt8).isPrefixOf (x :: l) = true := by
          show (x == x && ([] : List UInt8).isPrefixOf l) = true
          rw [beq_self_eq_true]; rfl
        rw [Lib.index, if_pos hp]; rfl⟩
    · have hp : ([c] : List UInt8).isPrefixOf (x :: l) = false := by
        show (c == x && ([] : List UInt8).isPrefixOf l) = false
        rw [beq_eq_false_iff_ne.2 (Ne.symm hx)]; rfl
      rcases index_one c l with ⟨h1, h2⟩ | ⟨a, r, h1, h2, h3⟩
      · refine .inl ⟨by rw [Lib.index, hp, h1]; rfl, fun y hy => ?_⟩
        rcases List.mem_cons.1 hy with rfl | hy
        · exact hx
        · exact h2 y hy
      · refine .inr ⟨x :: a, r, by rw [h1]; rfl, fun y hy => ?_, ?_⟩
        · rcases List.mem_cons.1 hy with rfl | hy
          · exact hx
          · exact h2 y hy
        · rw [Lib.index, hp, h3]
          have : ((a.length : Int) == -1) = false := by rw [beq_eq_false_iff_ne]; omega
          rw [this]
          simp
theorem split_k (c : UInt8) : ∀ (n : Nat) (l : List UInt8), l.length ≤ n → Lib.splitK [c] 0 (Lib.count l [c]) l = cutB c l := by
  intro n
  induction n with
  | zero =>
    intro l hl
    obtain rfl := List.eq_nil_of_length_eq_zero (Nat.le_zero.1 hl)
    rfl
  | succ n ih =>
    intro l hl
    rcases index_one c l with ⟨h1, h2⟩ | ⟨a, r, h1, h2, h3⟩
    · rw [Lib.count_miss h1, cut_none h2]; rfl
    · rw [Lib.count_hit (by simp) h3, Nat.add_comm 1, Lib.splitK, h3]
      have : ((a.length : Int) == -1) = false := by rw [beq_eq_false_iff_ne]; omega
      rw [this]
      have e1 : ((a.length : Int)).toNat = a.length := by omega
      simp only [Bool.false_eq_true, if_false, e1, Nat.add_zero, List.length_singleton]
      have e2 : l.drop (a.length + 1) = r := by rw [h1]; simp
      have e3 : l.take a.length = a := by rw [h1]; simp
      rw [e2, e3, ih r (by rw [h1] at hl; simp at hl; omega), h1, cut_at _ h2]
theorem split_lib (s : ByteArray) : Lib.splitB ⟨#[45]⟩ 0 (Lib.countB s ⟨#[45]⟩) s = splitT 45 s := by
  have h := Lib.splitB_data ⟨#[45]⟩ 0 (Lib.countB s ⟨#[45]⟩) s
  have h2 : Lib.splitK (⟨#[45]⟩ : ByteArray).data.toList 0 (Lib.countB s ⟨#[45]⟩) s.data.toList = cutB 45 s.data.toList := split_k 45 _ _ (Nat.le_refl _)
  rw [h2] at h
  rw [splitT, ← h, List.map_map]
  have e : ((fun l : List UInt8 => (⟨l.toArray⟩ : ByteArray)) ∘ fun x : ByteArray => x.data.toList) = id := funext fun x => of_bytes x
  rw [e, List.map_id]
theorem split_any (s : ByteArray) (hs : s.size ≤ 40) (w : World) (hg : Glob w) :
    Calls Tryz.prog 103 #[.string s, .string ⟨#[45]⟩] w fun e w' =>
      e = .returned (.slice (some ⟨w.heap.size, 0, none⟩) (splitT 45 s).length (splitT 45 s).length) ∧ w' = w.alloc (.cells ((splitT 45 s).map Value.string).toArray 9) := by
  obtain ⟨m, hm⟩ := hg.mx
  have hl : Lib.countB s ⟨#[45]⟩ + 1 = (splitT 45 s).length := by rw [← split_lib, Lib.splitB_all ⟨#[45]⟩ (by decide) 0 _ s rfl]
  refine (Any.strings_Split splitL (by kernel_rfl) s ⟨#[45]⟩ m w (by omega) hm (by decide)).mono fun e w' ⟨he, hw⟩ => ⟨?_, ?_⟩
  · rw [he, hl]
  · rw [hw, split_lib]; rfl

/-- How numberOf ends. -/
def numEnd (s : ByteArray) : Ending := match numE s with | some v => .returned (.int .i64 v) | none => .panicked [{ v := gaveUp, recovered := false }]
theorem numE_64 {s : ByteArray} {v : Int} (h : numE s = some v) : I64 v := by
  unfold numE at h
  cases hp : Lib.parseIntB 64 s.data.toList with
  | ok u =>
    rw [hp] at h
    obtain rfl := Option.some.inj h
    have := Lib.parseIntB_bounds hp
    constructor
    · have h1 := this.1; simp at h1; omega
    · have h2 := this.2; simp at h2; omega
  | «syntax» => rw [hp] at h; cases h
  | range => rw [hp] at h; cases h
theorem numberOf_any (s : ByteArray) (hs : s.size ≤ 40) (w : World) (hg : Glob w) :
    Calls Tryz.prog 104 #[.string s] w fun e w' => e = numEnd s ∧ Below w.heap.size w w' := by
  cases hp : Lib.parseIntB 64 s.data.toList with
  | ok v =>
    have HE : Hid (numEnd s = .returned (.int .i64 v)) := by show _ = _; rw [numEnd, numE, hp]
    have HP := Lib.hid hp
    clear hp
    go_enter Tryz.func104, Tryz.ntmps104
    go_wp2_with fail
    refine (Any.strconv_ParseInt_10_at64_ok parseL s (by omega) v HP.out _).mono ?_
    rintro e w1 ⟨rfl, hw1⟩
    have B1 : Hid (Below w.heap.size w w1) := by
      rcases hw1 with rfl | ⟨t, rfl⟩
      · exact Below.refl _ _
      · exact Lib.bytesWorld_below _ _ _
    clear hw1
    go_wp2_with fail
    refine (need_true _).mono ?_
    rintro e w' ⟨rfl, rfl⟩
    go_wp2
    go_ret
    exact ⟨by rw [HE.out]; rfl, B1.out⟩
  | «syntax» =>
    have HE : Hid (numEnd s = .panicked [{ v := gaveUp, recovered := false }]) := by show _ = _; rw [numEnd, numE, hp]
    have HP := Lib.hid hp
    obtain ⟨tp, p, hv⟩ := hg.syn
    have HVR := Lib.hid hv
    clear hp hv
    go_enter Tryz.func104, Tryz.ntmps104
    go_wp2_with fail
    refine (Any.strconv_ParseInt_10_at64_syntax_var parseL s (by omega) HP.out tp p _ HVR.out).mono ?_
    rintro e w1 ⟨N, rfl, _, _, b1⟩
    have B1 := Lib.hid b1
    clear b1
    go_wp2_with fail
    refine (need_false _).mono ?_
    rintro e w' ⟨rfl, rfl⟩
    go_wp2
    exact ⟨rfl, HE.out.symm, B1.out⟩
  | range =>
    have HE : Hid (numEnd s = .panicked [{ v := gaveUp, recovered := false }]) := by show _ = _; rw [numEnd, numE, hp]
    have HP := Lib.hid hp
    obtain ⟨tp, p, hv⟩ := hg.rng
    have HVR := Lib.hid hv
    clear hp hv
    go_enter Tryz.func104, Tryz.ntmps104
    go_wp2_with fail
    refine (Any.strconv_ParseInt_10_at64_range_var parseL s (by omega) HP.out tp p _ HVR.out).mono ?_
    rintro e w1 ⟨N, rfl, _, _, b1⟩
    have B1 := Lib.hid b1
    clear b1
    go_wp2_with fail
    refine (need_false _).mono ?_
    rintro e w' ⟨rfl, rfl⟩
    go_wp2
    exact ⟨rfl, HE.out.symm, B1.out⟩

end Go.Proofs.YtoffdlokndngeaaGreatDoor.Tx

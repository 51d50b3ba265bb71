/-
  A value of a struct type whose parts, however nested, are int64, strings and bools: what its cells are. Nothing of the program is named here. No conditions.
-/
import Derived.ProofKit
import Derived.WalkKit
import Derived.OpenShut
import Derived.Lib.SmallJoins
namespace Go.Proofs.Ytakhjdodljhfmaa.Tx
open Go.ChangeShapes Go.WideShapes Go.RowKit

/-- What one cell may hold. -/
inductive FK where
  | int
  | str
  | bool
def FK.fits : FK → Value → Prop
  | .int, v => ∃ n : Int, v = .int .i64 n ∧ (Lit.int .i64 n).wf = true
  | .str, v => ∃ s : ByteArray, v = .string s ∧ s.size ≤ maxLen
  | .bool, v => ∃ b : Bool, v = .bool b
def Fits : List FK → List Value → Prop
  | [], [] => True
  | k :: ks, v :: vs => k.fits v ∧ Fits ks vs
  | _, _ => False
theorem Fits.append : ∀ {ks ls : List FK} {vs us : List Value}, Fits ks vs → Fits ls us → Fits (ks ++ ls) (vs ++ us)
  | [], _, [], _, _, h => h
  | _ :: _, _, _ :: _, _, h, h' => ⟨h.1, Fits.append h.2 h'⟩
  | [], _, _ :: _, _, h, _ => h.elim
  | _ :: _, _, [], _, h, _ => h.elim

/-- The fields one behind the other, the first at cell 'off'. -/
def flatFields (P : Program) (g : TypeId → Option (List FK)) : Nat → List Field → Option (List FK)
  | _, [] => some []
  | off, f :: fs => match g f.type with
    | none => none
    | some ks => if f.offset = off ∧ P.cellsOf f.type = ks.length then (flatFields P g (off + ks.length) fs).map (ks ++ ·) else none
/-- What the cells of a type are, nested at most d deep. -/
def flat (P : Program) : Nat → TypeId → Option (List FK)
  | 0, _ => none
  | d + 1, t => match P.underlying t with
    | some (.int .i64) => some [.int]
    | some .string => some [.str]
    | some .bool => some [.bool]
    | some (.struct fs) => flatFields P (flat P d) 0 fs.toList
    | _ => none

/-- A list out of one element for each place. -/
theorem choose_list {α : Type} (d : α) (p : Nat → α → Prop) : ∀ n, (∀ j, j < n → ∃ x, p j x) → ∃ l : List α, l.length = n ∧ ∀ j, j < n → p j (l[j]?.getD d)
  | 0, _ => ⟨[], rfl, fun j h => absurd h (by omega)⟩
  | n + 1, h => by
    obtain ⟨l, hl, hp⟩ := choose_list d p n (fun j hj => h j (by omega))
    obtain ⟨x, hx⟩ := h n (by omega)
    refine ⟨l ++ [x], by simp [hl], fun j hj => ?_⟩
    by_cases e : j = n
    · subst e; rw [List.getElem?_append_right (by omega), hl]; simpa using hx
    · rw [List.getElem?_append_left (by omega)]; exact hp j (by omega)

section
variable {H : Type} {enc : TypeId × Value → H} {P : Program} {w : World} {base : Nat} {spare : Nat → Bool} {held : Bool}

theorem fields_fit {g : TypeId → Option (List FK)} {n : Nat} {cs : List Value} (hg : ∀ t ks vs x, g t = some ks → DataW.trod enc P w base spare held n t vs = some x → Fits ks vs) :
    ∀ (fs : List Field) (off : Nat) (ks : List FK), (∀ f ∈ fs, ∃ x, DataW.trod enc P w base spare held n f.type ((cs.drop f.offset).take (P.cellsOf f.type)) = some x) → flatFields P g off fs = some ks → cs.length = off + ks.length → Fits ks (cs.drop off)
  | [], off, ks, _, h, hl => by
    simp only [flatFields, Option.some.injEq] at h
    subst h
    rw [List.drop_of_length_le (by simp at hl; omega)]
    trivial
  | f :: fs, off, ks, hx, h, hl => by
    unfold flatFields at h
    cases hk : g f.type with
    | none => rw [hk] at h; cases h
    | some ls =>
      rw [hk] at h
      dsimp only at h
      by_cases hc : f.offset = off ∧ P.cellsOf f.type = ls.length
      · rw [if_pos hc] at h
        cases hr : flatFields P g (off + ls.length) fs with
        | none => rw [hr] at h; cases h
        | some rs =>
          rw [hr] at h
          simp only [Option.map_some, Option.some.injEq] at h
          subst h
          rw [List.length_append] at hl
          obtain ⟨x, hx0⟩ := hx f (List.mem_cons_self ..)
          rw [hc.1, hc.2] at hx0
          have h1 := hg _ _ _ _ hk hx0
          have h2 := fields_fit hg fs (off + ls.length) rs (fun f' hf' => hx f' (List.mem_cons_of_mem _ hf')) hr (by omega)
          have e : cs.drop off = (cs.drop off).take ls.length ++ cs.drop (off + ls.length) := by
            rw [← List.drop_drop]; exact (List.take_append_drop _ _).symm
          rw [e]
          exact h1.append h2
      · rw [if_neg hc] at h; cases h

/-- The struct's own number of cells is that of its kinds (asked of a program by reckoning). -/
def flatOk (P : Program) : Nat → TypeId → Bool
  | 0, _ => true
  | d + 1, t => match P.underlying t with
    | some (.struct fs) => (match flat P (d + 1) t with | some ks => P.cellsOf t == ks.length | none => false) && fs.toList.all fun f => flatOk P d f.type
    | _ => true

theorem flat_fits : ∀ (d : Nat) (t : TypeId) (ks : List FK) (n : Nat) (cs : List Value) (x : DataW H × List MemPlace), flatOk P d t = true → flat P d t = some ks → DataW.trod enc P w base spare held n t cs = some x → Fits ks cs := by
  intro d
  induction d with
  | zero => intro t ks n cs x _ h; cases h
  | succ d ih =>
    intro t ks n cs x hok h hx
    have h0 := h
    unfold flat at h
    split at h
    · rename_i hu
      injection h with h; subst h
      obtain ⟨m, rfl, _, hw⟩ := DataW.trod_int hu hx
      exact ⟨⟨m, rfl, hw⟩, trivial⟩
    · rename_i hu
      injection h with h; subst h
      obtain ⟨s, rfl, _, hs⟩ := DataW.trod_string hu hx
      exact ⟨⟨s, rfl, hs⟩, trivial⟩
    · rename_i hu
      injection h with h; subst h
      obtain ⟨b, rfl, _⟩ := DataW.trod_bool hu hx
      exact ⟨⟨b, rfl⟩, trivial⟩
    · rename_i fs hu
      obtain ⟨xs, m, _, _, hl, hlen, hf⟩ := DataW.trod_struct hu hx
      unfold flatOk at hok
      rw [hu] at hok
      dsimp only at hok
      rw [h0] at hok
      simp only [Bool.and_eq_true, beq_iff_eq, List.all_eq_true] at hok
      have hmem : ∀ f ∈ fs.toList, ∃ x, DataW.trod enc P w base spare held m f.type ((cs.drop f.offset).take (P.cellsOf f.type)) = some x := fun f hf' => by
        obtain ⟨i, hi, e⟩ := List.getElem_of_mem hf'
        have hi' : i < fs.size := by simpa using hi
        exact ⟨xs[i]'(by omega), (hf i f (by rw [← e]; simp [hi'])).trans (List.getElem?_eq_getElem (by omega))⟩
      have hcl : cs.length = 0 + ks.length := by rw [Nat.zero_add, hl, hok.1]
      have := fields_fit (P := P) (n := m) (cs := cs) (g := fun t => if flatOk P d t then flat P d t else none) (fun t' ks' vs x' hg hx' => by
        split at hg
        · rename_i ho; exact ih t' ks' m vs x' ho hg hx'
        · cases hg) fs.toList 0 ks hmem (by
          rw [← h]
          clear hmem hcl hf hlen hl hx h h0 hu
          have : ∀ (l : List Field) (o : Nat), (∀ f ∈ l, flatOk P d f.type = true) → flatFields P (fun t => if flatOk P d t then flat P d t else none) o l = flatFields P (flat P d) o l := by
            intro l
            induction l with
            | nil => intro o _; rfl
            | cons f l ih2 =>
              intro o ho
              unfold flatFields
              rw [if_pos (ho f (List.mem_cons_self ..))]
              cases flat P d f.type with
              | none => rfl
              | some q => dsimp only; rw [ih2 _ (fun f' hf' => ho f' (List.mem_cons_of_mem _ hf'))]
          exact this _ _ hok.2) hcl
      simpa using this
    · cases h

/-- An argument of such a type. -/
theorem open_flat {r : Reach} {b0 : Nat} {t : TypeId} {fs : Array Field} {v : Value} {dd : DataW H} {p : List MemPlace} {d : Nat} {ks : List FK} (hs : P.underlying t = some (.struct fs)) (hok : flatOk P d t = true) (hk : flat P d t = some ks)
    (hv : Value.okWide P w r b0 t v) (h : DataW.Trod enc P w base spare held t v dd p) : ∃ cs : List Value, v = .agg cs.toArray ∧ Fits ks cs := by
  obtain ⟨cs, rfl, _⟩ := okWide_struct hs hv
  obtain ⟨fuel, hf⟩ := h
  exact ⟨cs.toList, by simp, flat_fits d t ks fuel _ _ hok hk (by simpa [Value.cells] using hf)⟩

/-- An argument that is a slice of such a type: each element's cells lie where they should, and are as its kinds say. -/
theorem open_flats {t e : TypeId} {fuel : Nat} {cs : List Value} {x : DataW H × List MemPlace} {d sz : Nat} {ks : List FK} (ht : P.underlying t = some (.slice e)) (hok : flatOk P d e = true) (hk : flat P d e = some ks) (hc : P.cellsOf e = sz) (hsz : 0 < sz)
    (h : DataW.trod enc P w base spare held fuel t cs = some x) :
    ∃ (A : Option Addr) (len cap : Nat), cs = [.slice A len cap] ∧ len ≤ maxLen ∧ (0 < len → ∃ b off, A = some ⟨b, off, none⟩ ∧ b < w.heap.size ∧ ∀ j, j < len → ∃ vs, Fits ks vs ∧ vs.length = sz ∧ ∀ i v, vs[i]? = some v → w.cell? ⟨b, off + j * sz + i, none⟩ = some v) := by
  rcases DataW.trod_slice ht h with ⟨rfl, _⟩ | ⟨a, len, cap, elems, rest, n, _, rfl, _, hb, hl, hm, hlen, hel, _, _⟩
  · exact ⟨none, 0, 0, rfl, Nat.zero_le _, fun h => absurd h (by omega)⟩
  · refine ⟨some a, len, cap, rfl, by omega, fun h0 => ?_⟩
    have each : ∀ j, j < len → ∃ vs, Fits ks vs ∧ vs.length = sz ∧ ∀ i, i < sz → w.cell? ((a.add (j * sz)).add i) = vs[i]? := fun j hj => by
      have h1 := hel j hj
      rw [hc, List.getElem?_eq_getElem (by omega), Option.bind_eq_some_iff] at h1
      obtain ⟨vs, hv, hx⟩ := h1
      have hs := World.cells?_some hv
      exact ⟨vs, flat_fits d e ks n vs _ hok hk hx, hs.2.1, hs.2.2⟩
    obtain ⟨b, off, spot⟩ := a
    have hspot : spot = none := by
      obtain ⟨vs, _, hl0, hcell⟩ := each 0 h0
      have h2 := hcell 0 hsz
      rw [List.getElem?_eq_getElem (by omega)] at h2
      simpa [Addr.add] using World.cell?_spot h2
    subst hspot
    refine ⟨b, off, rfl, ?_, fun j hj => ?_⟩
    · obtain ⟨vs, _, hl0, hcell⟩ := each 0 h0
      have h2 := hcell 0 hsz
      rw [List.getElem?_eq_getElem (by omega), Go.WideShapes.add_plain, Go.WideShapes.add_plain] at h2
      exact World.block_lt_of_cell? _ _ h2
    · obtain ⟨vs, hf, hl0, hcell⟩ := each j hj
      refine ⟨vs, hf, hl0, fun i v hv => ?_⟩
      have hi : i < sz := by rw [← hl0]; exact (List.getElem?_eq_some_iff.1 hv).1
      have := hcell i hi
      rw [Go.WideShapes.add_plain, Go.WideShapes.add_plain] at this
      rw [this, hv]
end

end Go.Proofs.Ytakhjdodljhfmaa.Tx
